package tests

import (
	"regexp"
	"slices"
	"strconv"
	"strings"
	"sync"
	"testing"

	"loop.example/g00161/impl"
)

var (
	benchNumber = `(0|-?[1-9][0-9]{0,8})`
	lineOfMap   = regexp.MustCompile(`(?s)^map (.*)$`)
	lineOfTell  = regexp.MustCompile(`(?s)^tell ` + benchNumber + ` (.*)$`)
	lineOfOne   = regexp.MustCompile(`^(time|beat|stop|deliver|lose|twice|calm|role|answers) ` + benchNumber + `$`)
	lineOfWay   = regexp.MustCompile(`^way ` + benchNumber + ` ` + benchNumber + `$`)
)

// desk is the bench by the words of the chapter: each line by the functions of the chapters ahead of it.
type desk struct {
	g impl.Graph
	c impl.Cluster
}

func newDesk() *desk {
	return &desk{g: graph(1), c: newCluster(3)}
}

func numberOf(text string) int64 {
	number, _ := strconv.ParseInt(text, 10, 64)
	return number
}

func decimal(number int64) string {
	return strconv.FormatInt(number, 10)
}

// line is what one line that has a byte is answered with.
func (d *desk) line(line string) string {
	if parts := lineOfMap.FindStringSubmatch(line); parts != nil {
		return d.onMap(parts[1])
	}
	if parts := lineOfTell.FindStringSubmatch(line); parts != nil {
		return d.onOp(opTell(numberOf(parts[1]), parts[2]))
	}
	if parts := lineOfWay.FindStringSubmatch(line); parts != nil {
		return d.onWay(numberOf(parts[1]), numberOf(parts[2]))
	}
	if parts := lineOfOne.FindStringSubmatch(line); parts != nil {
		return d.onOne(parts[1], numberOf(parts[2]))
	}
	if line != "agreed" {
		return "error"
	}
	if !impl.Agreed(d.c) {
		return "no"
	}
	return "yes"
}

func (d *desk) onMap(text string) string {
	g, is := impl.ReadGraph(text)
	if !is {
		return "error"
	}
	d.g, d.c = g, newCluster(3)
	return strconv.Itoa(len(impl.Fill(g, impl.Order(g))))
}

func (d *desk) onOp(op impl.Op) string {
	c, told := impl.Do(d.c, op)
	if told < 0 {
		return "error"
	}
	d.c = c
	if op.Kind == impl.OpTell {
		return decimal(told)
	}
	return strconv.Itoa(len(c.Net))
}

func (d *desk) onWay(a, b int64) string {
	h := impl.NewHier(d.g)
	way, length := impl.Route(d.g, h, impl.Customize(d.g, h), a, b)
	if len(way) == 0 {
		return "no"
	}
	answer := decimal(length)
	for _, place := range way {
		answer += " " + decimal(place)
	}
	return answer
}

func (d *desk) onOne(word string, number int64) string {
	switch word {
	case "time":
		return d.onOp(opTime(number))
	case "beat":
		return d.onOp(opBeat(number))
	case "stop":
		return d.onOp(opStop(number))
	case "deliver":
		return d.onOp(opDeliver(number))
	case "lose":
		return d.onOp(opLose(number))
	case "twice":
		return d.onOp(opTwice(number))
	}
	if number < 0 || number > 2 {
		return "error"
	}
	switch word {
	case "calm":
		d.c = impl.Calm(d.c, number)
		return decimal(d.c.Nodes[number].Commit)
	case "role":
		n := d.c.Nodes[number]
		return decimal(n.Role) + " " + decimal(n.Term) + " " + strconv.Itoa(len(n.Log)) + " " + decimal(n.Commit)
	}
	s, is := impl.Served(d.c, number, d.g)
	if !is {
		return "error"
	}
	return strings.Join(s.Answers, ";")
}

// benchByWords is Bench by the words of the chapter.
func benchByWords(text string) string {
	if len(text) > 20000 {
		return ""
	}
	d := newDesk()
	answers := ""
	count := 0
	for len(text) > 0 {
		line, rest, _ := strings.Cut(text, "\n")
		text = rest
		count++
		if line != "" {
			answers += d.line(line) + "\n"
		}
	}
	if count > 200 {
		return ""
	}
	return answers
}

// checkBench asks for just these answers, each with a byte 10 behind it.
func checkBench(t *testing.T, text string, answers ...string) {
	t.Helper()
	want := ""
	for _, answer := range answers {
		want += answer + "\n"
	}
	if got := impl.Bench(text); got != want {
		t.Fatalf("%.3000q: %q, not %q", text, got, want)
	}
	if words := benchByWords(text); words != want {
		t.Fatalf("%.3000q by the words: %q, not %q", text, words, want)
	}
}

// checkWords holds a text against the words of the chapter alone.
func checkWords(t *testing.T, text string) string {
	t.Helper()
	got := impl.Bench(text)
	if want := benchByWords(text); got != want {
		t.Fatalf("%.3000q: %q, not %q", text, got, want)
	}
	return got
}

// checkScript takes a line and its answer a row, with = between them.
func checkScript(t *testing.T, script string) {
	t.Helper()
	var lines, answers []string
	for _, row := range strings.Split(strings.Trim(script, "\n"), "\n") {
		at := strings.LastIndex(row, " =")
		lines = append(lines, row[:at])
		answers = append(answers, strings.TrimPrefix(row[at+2:], " "))
	}
	for upTo := range len(lines) + 1 {
		checkBench(t, strings.Join(lines[:upTo], "\n"), answers[:upTo]...)
	}
	checkBench(t, strings.Join(lines, "\n")+"\n", answers...)
}

// checkErrors asks that these lines are answered by error anywhere in a script, and that they change nothing of what comes behind them.
func checkErrors(t *testing.T, script string, wrong ...string) {
	t.Helper()
	lines := strings.Split(script, "\n")
	answers := strings.Split(strings.TrimSuffix(checkWords(t, script), "\n"), "\n")
	for i, line := range wrong {
		for _, at := range []int{0, len(lines), i % len(lines)} {
			checkBench(t, strings.Join(slices.Insert(slices.Clone(lines), at, line), "\n"), slices.Insert(slices.Clone(answers), at, "error")...)
		}
	}
}

// fullLife is a script without a line that is refused: in it each word is there.
const fullLife = `map 4 0 1 7 1 2 7 2 3 7 3 0 7
time 0
twice 1
lose 1
deliver 0
deliver 1
tell 0 ask 0 2
calm 0
tell 0 weigh 0 1 1
beat 0
deliver 1
stop 1
answers 0
role 1
way 0 2
agreed
calm 0
answers 1
role 0
role 2`

func TestBenchNumbers(t *testing.T) {
	if impl.MaxText != 20000 || impl.MaxLines != 200 {
		t.Fatal("a number is another one")
	}
}

func TestBenchOfLines(t *testing.T) {
	checkBench(t, "")
	for count := 1; count <= impl.MaxLines+1; count++ {
		checkBench(t, strings.Repeat("\n", count))
	}
	checkBench(t, "agreed", "yes")
	checkBench(t, "agreed\n", "yes")
	checkBench(t, "\nagreed", "yes")
	checkBench(t, "\n\n\nagreed", "yes")
	checkBench(t, "agreed\n\n", "yes")
	checkBench(t, "agreed\n\n\n\n", "yes")
	checkBench(t, "\n\nagreed\n\n\nrole 0\n\nrole 1\n\n", "yes", "1 0 0 0", "1 0 0 0")
	checkBench(t, "agreed\nrole 0", "yes", "1 0 0 0")
	checkBench(t, "agreed\nrole 0\n", "yes", "1 0 0 0")
	checkBench(t, "x", "error")
	checkBench(t, " ", "error")
	checkBench(t, " \n \n\n  ", "error", "error", "error")
	// No other byte ends a line.
	checkBench(t, "agreed\r\nagreed", "error", "yes")
	checkBench(t, "agreed\ragreed", "error")
	checkBench(t, "agreed\x00agreed", "error")
	checkBench(t, "agreed\vagreed\fagreed", "error")
	checkBench(t, "agreed\u0085agreed\u2028agreed", "error")
	checkBench(t, "\r\n\n\t\nagreed", "error", "error", "yes")
}

func TestBenchOfMaxText(t *testing.T) {
	for _, end := range []string{"", "\n", "\nagreed", "\nagreed\n", "\n\n\n"} {
		for _, begin := range []string{"", "agreed\n", "\n", "role 0\n\n"} {
			for _, word := range []string{"x", " ", "agreed", "map ", "tell 0 ", "way 0 ", "role 0"} {
				room := impl.MaxText - len(begin) - len(end) - len(word)
				for more := -1; more <= 2; more++ {
					text := begin + word + strings.Repeat("1", room+more) + end
					got := checkWords(t, text)
					if len(text) != impl.MaxText+more || (len(got) > 0) != (more <= 0) {
						t.Fatalf("%d bytes: %q", len(text), got)
					}
				}
			}
		}
	}
	long := strings.Repeat("agreed\n", 99) + "way 0 0\n"
	checkBench(t, long+strings.Repeat(" ", impl.MaxText-len(long)), append(slices.Repeat([]string{"yes"}, 99), "0 0", "error")...)
	checkBench(t, long+strings.Repeat(" ", impl.MaxText-len(long)+1))
	checkBench(t, strings.Repeat("a", impl.MaxText-1)+"\n", "error")
	checkBench(t, strings.Repeat("a", impl.MaxText)+"\n")
	checkBench(t, strings.Repeat("é", impl.MaxText/2), "error")
	checkBench(t, strings.Repeat("é", impl.MaxText/2)+"x")
	checkBench(t, strings.Repeat("agreed\n", 1000000))
}

func TestBenchOfMaxLines(t *testing.T) {
	yes := func(count int) []string { return slices.Repeat([]string{"yes"}, count) }
	checkBench(t, strings.Repeat("agreed\n", 199), yes(199)...)
	checkBench(t, strings.Repeat("agreed\n", 199)+"agreed", yes(200)...)
	checkBench(t, strings.Repeat("agreed\n", 200), yes(200)...)
	checkBench(t, strings.Repeat("agreed\n", 200)+"agreed")
	checkBench(t, strings.Repeat("agreed\n", 201))
	checkBench(t, strings.Repeat("agreed\n", 200)+"x")
	checkBench(t, strings.Repeat("x\n", 200), slices.Repeat([]string{"error"}, 200)...)
	checkBench(t, strings.Repeat("x\n", 201))
	// Lines without a byte count.
	checkBench(t, strings.Repeat("\n", 199)+"agreed", "yes")
	checkBench(t, strings.Repeat("\n", 199)+"agreed\n", "yes")
	checkBench(t, strings.Repeat("\n", 200)+"agreed")
	checkBench(t, strings.Repeat("\n", 200)+"agreed\n")
	checkBench(t, "agreed\n"+strings.Repeat("\n", 199), "yes")
	checkBench(t, "agreed\n"+strings.Repeat("\n", 200))
	checkBench(t, "agreed"+strings.Repeat("\n", 200), "yes")
	checkBench(t, "agreed"+strings.Repeat("\n", 201))
	checkBench(t, strings.Repeat("agreed\n\n", 100), yes(100)...)
	checkBench(t, strings.Repeat("agreed\n\n", 99)+"agreed\nagreed", yes(101)...)
	checkBench(t, strings.Repeat("agreed\n\n", 100)+"agreed")
	checkBench(t, strings.Repeat("agreed\n\n", 100)+"\n")
	checkBench(t, strings.Repeat("\nagreed\n", 100), yes(100)...)
	checkBench(t, strings.Repeat("\nagreed\n", 100)+"\n")
}

// TestBenchWithoutMap: three servers that follow, nothing under way, one place.
func TestBenchWithoutMap(t *testing.T) {
	checkScript(t, `
role 0 = 1 0 0 0
role 1 = 1 0 0 0
role 2 = 1 0 0 0
role 3 = error
role -1 = error
agreed = yes
answers 0 =
answers 2 =
answers 3 = error
way 0 0 = 0 0
way 0 1 = no
way 1 0 = no
way 1 1 = no
deliver 0 = error
tell 0 none = error
beat 0 = 0
stop 0 = 0
calm 0 = 0
time 2 = 2
calm 2 = 1
tell 2 ask 0 0 = 2
tell 2 ask 0 1 = 3
tell 2 weigh 0 1 5 = 4
calm 2 = 4
answers 0 = 0 0;0 no;no
answers 2 = 0 0;0 no;no
`)
}

func TestBenchMap(t *testing.T) {
	checkScript(t, `
map 1 = 0
map 2 = 0
map 2 0 1 4 = 1
map 2 0 1 4 1 0 5 = 1
map 3 0 1 4 0 2 4 = 2
map 4 0 1 1 1 2 1 2 3 1 3 0 1 = 5
map 5 0 1 1 0 2 1 0 3 1 0 4 1 = 4
map 24 = 0
way 23 23 = 0 23
map 24 0 23 1000000 = 1
way 0 23 = 1000000 0 23
way 23 0 = no
`)
	full := fullGraph(11, impl.MaxArcs)
	checkBench(t, "map "+impl.ShowGraph(full), strconv.Itoa(len(impl.NewHier(full).Edges)))
	r := numbersFrom(160)
	for range 60 {
		g := someGraph(&r, 1+r.below(impl.MaxPlaces), r.below(impl.MaxArcs+1))
		checkBench(t, "map "+impl.ShowGraph(g), strconv.Itoa(len(impl.Fill(g, impl.Order(g)))))
	}
	checkErrors(t, fullLife, "map", "map ", "map  ", "map  2 0 1 4", "map 0", "map 25", "map -1", "map x", "map 2 ", " map 2", "map 02", "map +2", "map 2 0", "map 2 0 1", "map 2 0 1 0", "map 2 0 1 1000001",
		"map 2 0 2 4", "map 2 0 0 4", "map 2 0 1 4 ", "map 2 0  1 4", "map 2 0 1 4 0 1 5", "map 3 0 2 4 0 1 4", "map 2 1 0 4 0 1 4", "map 2 0 1 4 1", "map 2 0 1 04", "map map 2", "map2", "map\t2", "map 2\r", "Map 2", "MAP 2", "maps 2", "ma 2",
		"map "+strings.Repeat("1 ", 2000), "map 1000000000", "map 18446744073709551618")
}

// TestBenchMapBeginsAnew: a map that is taken makes a new cluster, even the same map; one that is refused leaves the map and the cluster.
func TestBenchMapBeginsAnew(t *testing.T) {
	checkScript(t, `
map 2 0 1 4 = 1
time 1 = 2
role 1 = 2 1 0 0
map 2 0 1 x = error
role 1 = 2 1 0 0
way 0 1 = 4 0 1
calm 1 = 1
tell 1 weigh 0 1 3 = 2
calm 1 = 2
answers 0 = ok 1
map 2 0 1 0 = error
map = error
map  = error
answers 0 = ok 1
role 1 = 3 1 2 2
beat 1 = 2
map 2 0 1 4 = 1
deliver 0 = error
role 0 = 1 0 0 0
role 1 = 1 0 0 0
role 2 = 1 0 0 0
role 3 = error
answers 0 =
tell 1 none = error
time 1 = 2
map 3 1 0 9 1 2 2 = 2
role 1 = 1 0 0 0
way 0 1 = no
way 1 0 = 9 1 0
time 0 = 2
calm 0 = 1
tell 0 ask 1 2 = 2
tell 0 ask 0 1 = 3
calm 0 = 3
answers 1 = 0 2;0 no
map 1 = 0
answers 1 =
way 1 2 = no
`)
}

// TestBenchNumbersOfLines: each word that wants one number, with what is none and with too much behind it.
func TestBenchNumbersOfLines(t *testing.T) {
	for _, word := range []string{"time", "beat", "stop", "deliver", "lose", "twice", "calm", "role", "answers"} {
		wrong := []string{word, word + " ", word + "  ", word + "  0", word + " 0 ", word + " 0  ", word + " 0 0", word + " 0 1", word + " 0 x", word + " x 0", word + " 0 none", word + " " + word,
			" " + word + " 0", "  " + word + " 0", word + "\t0", word + "0", word + " 0\t", word + " 0\r", word + " 0\x00", word + "\x00 0", word + " zero", word + " 0,1", word + " 0;1", word + " 1000000000", word + " -1000000000",
			strings.ToUpper(word) + " 0", strings.ToUpper(word[:1]) + word[1:] + " 0", word + "s 0", word[:len(word)-1] + " 0", word + " +0", word + " -0", word + " 00", word + " 01", word + " 000000000"}
		for _, number := range append(wrongNumbers(), "3000", "-2", "4294967296", "-999999999", "999999999") {
			if len(number) < 2000 && number != "1" {
				wrong = append(wrong, word+" "+number)
			}
		}
		checkErrors(t, fullLife, wrong...)
	}
}

func TestBenchTime(t *testing.T) {
	checkScript(t, `
time 0 = 2
role 0 = 2 1 0 0
time 0 = 4
role 0 = 2 2 0 0
time 2 = 6
role 2 = 2 1 0 0
time 3 = error
time -1 = error
time 1 = 8
deliver 2 = 8
deliver 7 = 9
role 0 = 3 2 1 0
time 0 = 9
role 0 = 3 2 1 0
`)
}

func TestBenchBeat(t *testing.T) {
	checkScript(t, `
beat 0 = 0
time 0 = 2
beat 0 = 2
calm 0 = 1
beat 0 = 2
beat 0 = 4
beat 1 = 4
beat 3 = error
beat -1 = error
deliver 0 = 4
`)
}

func TestBenchStop(t *testing.T) {
	checkScript(t, `
stop 2 = 0
time 2 = 2
stop 2 = 2
role 2 = 1 1 0 0
calm 2 = 0
role 2 = 1 1 0 0
time 2 = 2
calm 2 = 1
role 2 = 3 2 1 1
beat 2 = 2
stop 2 = 2
role 2 = 1 2 1 0
tell 2 none = error
stop 3 = error
stop -1 = error
stop 0 = 2
role 0 = 1 2 1 0
`)
}

func TestBenchDeliverLoseTwice(t *testing.T) {
	checkScript(t, `
deliver 0 = error
lose 0 = error
twice 0 = error
time 0 = 2
deliver 2 = error
lose 2 = error
twice 2 = error
deliver -1 = error
lose -1 = error
twice -1 = error
twice 0 = 3
twice 1 = 4
lose 3 = 3
lose 1 = 2
deliver 0 = 2
deliver 0 = 2
role 1 = 1 1 0 0
role 2 = 1 0 0 0
lose 0 = 1
lose 0 = 0
lose 0 = error
role 0 = 2 1 0 0
time 0 = 2
deliver 0 = 2
twice 1 = 3
deliver 1 = 4
role 0 = 3 2 1 0
deliver 1 = 3
role 0 = 3 2 1 0
lose 0 = 2
deliver 0 = 2
deliver 1 = 1
role 0 = 3 2 1 1
deliver 0 = 1
deliver 0 = 0
role 2 = 1 2 1 0
`)
}

// TestBenchOfAFullNetwork: what is sent beyond MaxNet is lost, and what is under way is told.
func TestBenchOfAFullNetwork(t *testing.T) {
	text, answers := "", []string{}
	for round := range 105 {
		text += "time 1\n"
		answers = append(answers, strconv.Itoa(min(2*(round+1), impl.MaxNet)))
	}
	text += "twice 199\ntwice 200\ndeliver 200\nlose 200\nlose 199\ntwice 0\ntwice 0\nlose 0\nlose 0\ntime 0\nrole 1\nrole 0"
	answers = append(answers, "200", "error", "error", "error", "199", "200", "200", "199", "198", "200", "2 105 0 0", "2 1 0 0")
	checkBench(t, text, answers...)
}

func TestBenchTell(t *testing.T) {
	checkScript(t, `
map 2 0 1 4 = 1
tell 0 none = error
time 0 = 2
tell 0 none = error
calm 0 = 1
tell 0 none = 2
tell 0 ask 0 1 = 3
tell 0 ask 0 1 = 4
tell 0 weigh 0 1 5 = 5
tell 0 weigh 0 1 5 1 0 6 = 6
tell 0 weigh 1 0 6 = 7
tell 1 none = error
tell 2 ask 0 1 = error
tell 3 none = error
tell -1 none = error
role 0 = 3 1 7 1
calm 0 = 7
answers 0 = 0 4;0 4;ok 1;no;no
role 0 = 3 1 7 7
`)
	wrong := []string{"tell", "tell ", "tell  ", "tell 0", "tell 0 ", "tell 0  ", "tell 0  none", "tell 0 none ", "tell 0 none 0", "tell  0 none", " tell 0 none", "tell none", "tell none 0", "tell x none", "tell +0 none", "tell -0 none", "tell 00 none",
		"tell 0\tnone", "tell\t0 none", "tell 0 none\r", "tell 0,none", "tell 0none", "tell 0 0 none", "tell 0 tell 0 none", "tell 0 None", "tell 0 no", "tell 0 map 2", "TELL 0 none", "tells 0 none", "tel 0 none",
		"tell 1 none", "tell 2 none", "tell 3 none", "tell -1 none", "tell 1 ask 0 1", "tell 1000000000 none", "tell 18446744073709551616 none", "tell 4294967296 none"}
	for _, text := range otherTexts() {
		if !strings.Contains(text, "\n") {
			wrong = append(wrong, "tell 0 "+text)
		}
	}
	script := strings.Join(strings.Split(fullLife, "\n")[:10], "\n")
	lines := strings.Split(script, "\n")
	answers := strings.Split(strings.TrimSuffix(checkWords(t, script), "\n"), "\n")
	for _, line := range wrong {
		// Server 0 leads there: that it does not lead is not why.
		checkBench(t, script+"\n"+line+"\nrole 0\ntell 0 none", append(slices.Clone(answers), "error", "3 1 3 2", "4")...)
		checkBench(t, line+"\n"+script, append([]string{"error"}, answers...)...)
	}
	for i, text := range commandTexts() {
		checkBench(t, script+"\ntell 0 "+text+"\ncalm 0", append(slices.Clone(answers), "4", "4")...)
		checkBench(t, "tell 0 "+text+"\n"+strings.Join(lines[:i], "\n"), append([]string{"error"}, answers[:i]...)...)
	}
}

// TestBenchOfALongLog: as many entries as MaxLines lines can bring; a full log they can't.
func TestBenchOfALongLog(t *testing.T) {
	text, answers := "time 0\ncalm 0\n", []string{"2", "1"}
	for number := 2; number <= impl.MaxLines-4; number++ {
		text += "tell 0 ask 0 0\n"
		answers = append(answers, strconv.Itoa(number))
	}
	text += "role 0\nanswers 0\ncalm 0\n"
	// Calm has three Beats, each of them brings MaxSend entries; the third one is answered, so that they are agreed on.
	checkBench(t, text, append(answers, "3 1 196 1", "", "16")...)
}

func TestBenchCalm(t *testing.T) {
	checkScript(t, `
calm 0 = 0
calm 3 = error
calm -1 = error
calm 0 1 = error
calm 0 1 2 = error
calm = error
time 0 = 2
calm 3 = error
calm 1 = 0
role 0 = 3 1 1 1
calm 1 = 0
calm 2 = 0
calm 0 = 1
calm 1 = 1
tell 0 none = 2
calm 1 = 1
calm 0 = 2
beat 0 = 2
calm 2 = 2
lose 0 = error
`)
}

func TestBenchRole(t *testing.T) {
	checkScript(t, `
role 0 = 1 0 0 0
role 3 = error
role -1 = error
role 0 1 = error
role 0 1 2 = error
role = error
time 0 = 2
role 0 = 2 1 0 0
calm 0 = 1
role 0 = 3 1 1 1
role 1 = 1 1 1 1
tell 0 none = 2
role 0 = 3 1 2 1
role 1 = 1 1 1 1
stop 0 = 0
role 0 = 1 1 2 0
time 0 = 2
time 0 = 4
role 0 = 2 3 2 0
`)
}

func TestBenchAgreed(t *testing.T) {
	checkScript(t, `
agreed = yes
agreed 0 = error
agreed  = error
agreed   = error
agreed yes = error
agreed agreed = error
 agreed = error
Agreed = error
agree = error
agreeds = error
time 0 = 2
time 1 = 4
agreed = yes
calm 0 = 1
agreed = yes
time 2 = 2
calm 2 = 2
agreed = yes
stop 2 = 0
agreed = yes
`)
	checkErrors(t, fullLife, "agreed ", "agreed  ", "agreed 0", "agreed x", "agreed -1", "agreed 0 1", "agreed\t", "agreed\r", "agreed\x00", " agreed", "AGREED")
}

func TestBenchAnswers(t *testing.T) {
	checkScript(t, `
map 3 0 1 4 1 2 5 = 2
answers 0 =
answers 3 = error
answers -1 = error
answers = error
answers 0 1 = error
answers  = error
time 0 = 2
calm 0 = 1
answers 0 =
tell 0 ask 0 2 = 2
answers 0 =
calm 0 = 2
answers 0 = 0 9
answers 1 = 0 9
answers 2 = 0 9
tell 0 weigh 0 1 1 = 3
tell 0 ask 0 2 = 4
tell 0 weigh 2 0 1 = 5
tell 0 ask 2 0 = 6
tell 0 ask 0 23 = 7
tell 0 none = 8
tell 0 ask 1 1 = 9
tell 0 weigh 0 1 8 1 2 8 = 10
tell 0 ask 0 2 = 11
calm 0 = 11
answers 0 = 0 9;ok 1;1 6;no;1 no;1 no;1 0;ok 2;2 16
answers 2 = 0 9;ok 1;1 6;no;1 no;1 no;1 0;ok 2;2 16
answers 3 = error
tell 0 nothing = error
tell 0 weigh 0 0 5 = error
calm 0 = 11
answers 1 = 0 9;ok 1;1 6;no;1 no;1 no;1 0;ok 2;2 16
stop 1 = 0
answers 1 =
answers 0 = 0 9;ok 1;1 6;no;1 no;1 no;1 0;ok 2;2 16
`)
}

func TestBenchWay(t *testing.T) {
	checkScript(t, `
map 4 0 1 7 1 2 8 2 3 9 3 0 6 = 5
way 0 0 = 0 0
way 3 3 = 0 3
way 0 1 = 7 0 1
way 1 0 = 23 1 2 3 0
way 0 3 = 24 0 1 2 3
way 3 2 = 21 3 0 1 2
way 0 4 = no
way 4 0 = no
way 4 4 = no
way -1 0 = no
way 0 -1 = no
way 999999999 0 = no
way 0 -999999999 = no
way 0 1000000000 = error
way 0 = error
way = error
way  = error
way 0 1 2 = error
way 0 1 = 7 0 1
way 0 1  = error
way 0  1 = error
way  0 1 = error
way 0 x = error
way x 0 = error
way 00 1 = error
way 0 01 = error
way 0 +1 = error
way -0 1 = error
time 1 = 2
calm 1 = 1
tell 1 weigh 0 1 1 1 2 1 = 2
tell 1 ask 0 2 = 3
calm 1 = 3
answers 1 = ok 1;1 2
way 0 2 = 15 0 1 2
way 0 1 = 7 0 1
map 4 0 1 7 = 1
way 0 1 = 7 0 1
way 1 0 = no
way 0 2 = no
way 2 2 = 0 2
`)
	checkErrors(t, fullLife, "way", "way ", "way  ", "way 0", "way 0 ", "way 0  ", "way  0 1", "way 0  1", "way 0 1 ", "way 0 1 2", "way 0 1 x", "way 0 x", "way x 0", "way 0,1", " way 0 1", "way\t0 1", "way 0\t1", "way 0 1\r", "Way 0 1", "ways 0 1", "wa 0 1", "way 0 way 1")
	for _, number := range wrongNumbers() {
		if len(number) < 2000 {
			checkWords(t, "map 3 0 1 5 1 2 5 2 0 5\nway 0 "+number+"\nway "+number+" 0\nway "+number+"\nway "+number+" "+number+"\nway 0 1 "+number)
		}
	}
}

// TestBenchWaysOfSomeMaps: each way is a way of the map, as long as it is told, and as Distances tells.
func TestBenchWaysOfSomeMaps(t *testing.T) {
	r := numbersFrom(161)
	for range 40 {
		g := someGraph(&r, 2+r.below(impl.MaxPlaces-1), r.below(impl.MaxArcs+1))
		for from := range g.Places {
			text := "map " + impl.ShowGraph(g) + "\n"
			for to := range g.Places {
				text += "way " + decimal(from) + " " + decimal(to) + "\n"
			}
			distances := impl.Distances(g, from)
			for to, answer := range strings.Split(checkWords(t, text), "\n")[1 : g.Places+1] {
				checkWayAnswer(t, g, from, int64(to), distances[to], answer)
			}
		}
	}
}

func checkWayAnswer(t *testing.T, g impl.Graph, from, to, distance int64, answer string) {
	t.Helper()
	if distance == impl.Far {
		if answer != "no" {
			t.Fatalf("%v: %d %d: %q", g, from, to, answer)
		}
		return
	}
	words := strings.Split(answer, " ")
	path := []int64{}
	for _, word := range words[1:] {
		path = append(path, numberOf(word))
	}
	if len(path) == 0 || path[0] != from || path[len(path)-1] != to || numberOf(words[0]) != distance || impl.Length(g, path) != distance {
		t.Fatalf("%v: %d %d: %q, and it is %d away", g, from, to, answer, distance)
	}
}

func TestBenchOfOtherWords(t *testing.T) {
	wrong := []string{" ", "  ", "\t", "x", "0", "-1", "error", "yes", "no", "none", "ask 0 1", "weigh 0 1 5", "play 0", "do 0", "restart 0", "propose 0 none", "vote 0", "longest", "served 0", "serve 0", "true", "bench", "calm0", "graph 1", "distance 0 1",
		"time", "map", "=", "time=0", "time:0", "time\x000", "\x00", "\xff", "\xfftime 0", "time\xff 0", "é", "tıme 0", "time\u00a00", "\u00a0time 0", "\ufefftime 0", "#", "# time 0", "//", "time 0 # and so on", "time 0;time 1", "  agreed", " agreed", "\tagreed"}
	checkErrors(t, fullLife, wrong...)
	for _, line := range strings.Split(fullLife, "\n") {
		checkErrors(t, fullLife, " "+line, "  "+line, "\t"+line, line+" ", line+"  ", line+" x", line+"\r", line+"\x00", line+"\t", "x"+line, strings.ToUpper(line[:1])+line[1:], strings.Replace(line, line[:1], "", 1))
	}
}

// TestBenchOfOneThatLeadsAndStops: server 0 leads, tells and stops; server 1 leads then, and both tell the same answers.
func TestBenchOfOneThatLeadsAndStops(t *testing.T) {
	checkScript(t, `
map 4 0 1 7 1 2 7 2 3 7 3 0 7 = 5
time 0 = 2
deliver 0 = 2
deliver 1 = 3
role 0 = 3 1 1 0
tell 0 ask 0 2 = 2
calm 0 = 2
role 0 = 3 1 2 2
answers 0 = 0 14
tell 0 weigh 0 1 1 = 3
tell 0 ask 0 2 = 4
beat 0 = 2
deliver 0 = 2
deliver 1 = 1
role 0 = 3 1 4 4
role 1 = 1 1 4 2
answers 0 = 0 14;ok 1;1 8
answers 1 = 0 14
tell 0 weigh 0 1 3 = 5
stop 0 = 1
role 0 = 1 1 5 0
answers 0 =
lose 0 = 0
time 2 = 2
deliver 0 = 2
deliver 0 = 2
lose 0 = 1
lose 0 = 0
role 2 = 2 2 2 2
time 1 = 2
lose 0 = 1
deliver 0 = 1
deliver 0 = 2
role 1 = 3 3 5 2
role 2 = 1 3 2 2
agreed = yes
tell 1 ask 0 2 = 6
tell 0 ask 0 2 = error
calm 1 = 6
role 0 = 1 3 6 6
role 1 = 3 3 6 6
role 2 = 1 3 6 6
answers 0 = 0 14;ok 1;1 8;1 8
answers 1 = 0 14;ok 1;1 8;1 8
answers 2 = 0 14;ok 1;1 8;1 8
stop 1 = 0
time 0 = 2
calm 0 = 7
tell 0 weigh 3 0 2 = 8
tell 0 ask 3 1 = 9
calm 0 = 9
answers 0 = 0 14;ok 1;1 8;1 8;ok 2;2 3
answers 1 = 0 14;ok 1;1 8;1 8;ok 2;2 3
answers 2 = 0 14;ok 1;1 8;1 8;ok 2;2 3
agreed = yes
way 0 2 = 14 0 1 2
`)
}

func lineOf(op impl.Op) string {
	switch op.Kind {
	case impl.OpTime:
		return "time " + decimal(op.Node)
	case impl.OpBeat:
		return "beat " + decimal(op.Node)
	case impl.OpTell:
		return "tell " + decimal(op.Node) + " " + op.Text
	case impl.OpDeliver:
		return "deliver " + decimal(op.Index)
	case impl.OpLose:
		return "lose " + decimal(op.Index)
	case impl.OpTwice:
		return "twice " + decimal(op.Index)
	case impl.OpStop:
		return "stop " + decimal(op.Node)
	}
	return "op " + decimal(op.Kind)
}

// someLine is one of a script by which something comes about; the desk tells how far it came.
func someLine(r *numbersFrom, d *desk, quiet int64) string {
	line := lineOf(wildOp(r, d.c, quiet))
	switch what := r.below(40); {
	case what < 3:
		line = "calm " + decimal(r.below(3))
	case what < 6:
		line = "role " + decimal(r.below(4))
	case what < 9:
		line = "answers " + decimal(r.below(3))
	case what < 11:
		line = "way " + decimal(r.below(d.g.Places+1)) + " " + decimal(r.below(d.g.Places))
	case what < 12:
		line = "agreed"
	case what < 13:
		return ""
	case what < 14 && r.below(8) == 0:
		line = "map " + impl.ShowGraph(someGraph(r, 1+r.below(6), r.below(12)))
	}
	if r.below(20) == 0 {
		return spoiled(r, line)
	}
	return line
}

// spoiled is a line with one byte more, less or another, most often no right one any more.
func spoiled(r *numbersFrom, line string) string {
	at := r.below(int64(len(line)))
	byteOf := string(" 0123-+xamt\t"[r.below(12)])
	switch r.below(4) {
	case 0:
		return line[:at] + byteOf + line[at:]
	case 1:
		return line[:at] + line[at+1:]
	case 2:
		return line[:at] + byteOf + line[at+1:]
	}
	return line + byteOf
}

// scriptOf makes so many lines, and tells what the desk answers to each; of a line without a byte nothing.
func scriptOf(r *numbersFrom, count int64) ([]string, []string) {
	d := newDesk()
	quiet := 20 + r.below(60)
	var lines, answers []string
	add := func(line string) {
		lines = append(lines, line)
		answer := ""
		if line != "" {
			answer = d.line(line) + "\n"
		}
		answers = append(answers, answer)
	}
	if r.below(4) > 0 {
		add("map " + impl.ShowGraph(ring(4, 1+r.below(9))))
	}
	for int64(len(lines)) < count {
		add(someLine(r, d, quiet))
	}
	return lines, answers
}

// TestBenchTellsWhatTheChaptersTell is promise 14: each line of made scripts is answered as the functions of the chapters tell.
func TestBenchTellsWhatTheChaptersTell(t *testing.T) {
	r := numbersFrom(162)
	done, refused := map[string]int{}, map[string]int{}
	for range 250 {
		lines, answers := scriptOf(&r, 20+r.below(impl.MaxLines-19))
		text := strings.Join(lines, "\n")
		if r.below(2) == 0 || lines[len(lines)-1] == "" {
			text += "\n"
		}
		got, want := impl.Bench(text), strings.Join(answers, "")
		if got != want || got != benchByWords(text) {
			t.Fatalf("%q: %q, not %q", text, got, want)
		}
		for i, line := range lines {
			word, _, _ := strings.Cut(line, " ")
			if answers[i] == "error\n" {
				refused[word]++
			} else {
				done[word]++
			}
		}
	}
	for _, word := range []string{"map", "time", "beat", "stop", "tell", "deliver", "lose", "twice", "calm", "role", "agreed", "answers", "way"} {
		if done[word] < 50 || refused[word] < 1 {
			t.Fatalf("%s: too little came about: %d and %d", word, done[word], refused[word])
		}
	}
}

// TestBenchAnswersStay: what comes later changes no answer that came before.
func TestBenchAnswersStay(t *testing.T) {
	r := numbersFrom(163)
	for range 6 {
		lines, answers := scriptOf(&r, impl.MaxLines)
		for upTo := range len(lines) + 1 {
			if got, want := impl.Bench(strings.Join(lines[:upTo], "\n")), strings.Join(answers[:upTo], ""); got != want {
				t.Fatalf("%q: %q, not %q", lines[:upTo], got, want)
			}
		}
	}
	for range 60 {
		lines, answers := scriptOf(&r, impl.MaxLines/2)
		others, _ := scriptOf(&r, impl.MaxLines/2)
		upTo := r.below(int64(len(lines)) + 1)
		text := strings.Join(append(slices.Clone(lines[:upTo]), others...), "\n")
		if got := checkWords(t, text); !strings.HasPrefix(got, strings.Join(answers[:upTo], "")) {
			t.Fatalf("%q: %q", text, got)
		}
	}
}

// TestBenchOfWrongLinesInSomeScripts: a line that is refused, and one without a byte, changes nothing of what comes behind it.
func TestBenchOfWrongLinesInSomeScripts(t *testing.T) {
	r := numbersFrom(164)
	wrong := []string{"time 3", "beat -1", "stop x", "tell 3 none", "tell 0 nothing", "tell 0", "deliver 200", "lose -1", "twice 999999999", "calm 3", "role 3", "agreed 0", "answers 3", "way 0", "map 2 0 1 0", "map", "x", " agreed", ""}
	for range 40 {
		lines, answers := scriptOf(&r, impl.MaxLines-1)
		for _, line := range wrong {
			at := int(r.below(int64(len(lines)) + 1))
			want := slices.Insert(slices.Clone(answers), at, "error\n")
			if line == "" {
				want = answers
			}
			if got := impl.Bench(strings.Join(slices.Insert(slices.Clone(lines), at, line), "\n") + "\n"); got != strings.Join(want, "") {
				t.Fatalf("%q at %d of %q: %q, not %q", line, at, lines, got, want)
			}
		}
	}
}

// TestBenchAnswersAreTrue is promise 13 by lines: what is told of the servers is one order, and each answer the true one, by the map alone.
func TestBenchAnswersAreTrue(t *testing.T) {
	r := numbersFrom(165)
	told := 0
	for range 60 {
		lines, _ := scriptOf(&r, 150)
		all := strings.Join(lines, "\n") + "\nagreed\nanswers 0\nanswers 1\nanswers 2\n"
		rows := strings.Split(strings.TrimSuffix(checkWords(t, all), "\n"), "\n")
		last := rows[len(rows)-4:]
		slices.SortFunc(last[1:], func(a, b string) int { return len(a) - len(b) })
		if last[0] != "yes" || !strings.HasPrefix(last[2], last[1]) || !strings.HasPrefix(last[3], last[2]) {
			t.Fatalf("%q: %q", lines, last)
		}
		told += len(last[3])
	}
	if told < 200 {
		t.Fatal(told)
	}
}

// TestBenchOfAnyBytes: whatever the text is, it is answered, a line for each that has a byte.
func TestBenchOfAnyBytes(t *testing.T) {
	r := numbersFrom(166)
	for round := range 3000 {
		var bytes []byte
		for range r.below(60) {
			if round%2 == 0 {
				bytes = append(bytes, byte(r.below(256)))
			} else {
				bytes = append(bytes, "time 012\n\n\nagreed\nrole 0\nmap 1\ncalm 1\nway 0 0"[r.below(45)])
			}
		}
		checkWords(t, string(bytes))
	}
	for _, line := range strings.Split(fullLife, "\n") {
		for at := range line {
			for _, value := range []byte{0, 9, 10, 13, 32, 43, 45, 48, 49, 127, 128, 255} {
				changed := []byte(line)
				changed[at] = value
				checkWords(t, fullLife+"\n"+string(changed)+"\nrole 0")
				checkWords(t, fullLife+"\n"+line[:at]+string([]byte{value})+line[at:]+"\nrole 0")
			}
		}
	}
}

// TestBenchKeepsNothing: no call finds what another one left, at the same time or ahead of it.
func TestBenchKeepsNothing(t *testing.T) {
	r := numbersFrom(167)
	var texts, answers []string
	for range 20 {
		lines, told := scriptOf(&r, 80)
		texts, answers = append(texts, strings.Join(lines, "\n")), append(answers, strings.Join(told, ""))
	}
	var all sync.WaitGroup
	got := make([]string, 5*len(texts))
	for i := range got {
		all.Go(func() { got[i] = impl.Bench(texts[i%len(texts)]) })
	}
	all.Wait()
	for i := range got {
		if got[i] != answers[i%len(texts)] {
			t.Fatalf("%q: %q, not %q", texts[i%len(texts)], got[i], answers[i%len(texts)])
		}
	}
}

// TestBenchTextStays: the text is not written into, and no answer is kept in its memory.
func TestBenchTextStays(t *testing.T) {
	r := numbersFrom(168)
	for _, text := range []string{"", "\n", "agreed", "x", "way 0 0", fullLife, fullLife + "\n"} {
		checkTextStays(t, text)
	}
	for range 30 {
		lines, _ := scriptOf(&r, 100)
		checkTextStays(t, strings.Join(lines, "\n"))
	}
}

func checkTextStays(t *testing.T, text string) {
	t.Helper()
	memory, write := keptText(text)
	first := impl.Bench(memory)
	kept := strings.Clone(first)
	if memory != text {
		t.Fatalf("%q was written into: %q", text, memory)
	}
	write()
	if first != kept || impl.Bench(text) != kept {
		t.Fatalf("%q, overwritten once it was answered: %q, was %q", text, first, kept)
	}
}
