package tests

import (
	"math"
	"math/big"
	"regexp"
	"slices"
	"strconv"
	"strings"
	"testing"
	"unsafe"

	"loop.example/g00161/impl"
)

func sameCommand(a, b impl.Command) bool {
	return a.Kind == b.Kind && a.From == b.From && a.To == b.To && slices.Equal(a.Arcs, b.Arcs)
}

func isZeroCommand(c impl.Command) bool {
	return sameCommand(c, impl.Command{})
}

func cloneCommand(c impl.Command) impl.Command {
	return impl.Command{Kind: c.Kind, Arcs: slices.Clone(c.Arcs), From: c.From, To: c.To}
}

// commandByHand is the text that a command would have if it were right.
func commandByHand(c impl.Command) string {
	text := map[int64]string{impl.CmNone: "none", impl.CmWeigh: "weigh", impl.CmAsk: "ask"}[c.Kind]
	numbers := []int64{}
	if c.Kind == impl.CmAsk {
		numbers = append(numbers, c.From, c.To)
	}
	for _, x := range c.Arcs {
		numbers = append(numbers, x.From, x.To, x.Weight)
	}
	for _, number := range numbers {
		text += " " + strconv.FormatInt(number, 10)
	}
	return text
}

var (
	aPlace  = `(?:1?[0-9]|2[0-3])`
	aWeight = `(?:[1-9][0-9]{0,5}|1000000)`
	toAsk   = regexp.MustCompile(`^ask ` + aPlace + ` ` + aPlace + `$`)
	toWeigh = regexp.MustCompile(`^weigh(?: ` + aPlace + ` ` + aPlace + ` ` + aWeight + `){1,10}$`)
)

// readCommandByHand reads a command's text by another way than the program does.
func readCommandByHand(text string) (impl.Command, bool) {
	if text == "none" {
		return none(), true
	}
	if !toAsk.MatchString(text) && !toWeigh.MatchString(text) {
		return impl.Command{}, false
	}
	words := strings.Fields(text)
	numbers := make([]int64, len(words)-1)
	for i, word := range words[1:] {
		numbers[i], _ = strconv.ParseInt(word, 10, 64)
	}
	if words[0] == "ask" {
		return ask(numbers[0], numbers[1]), true
	}
	c := weigh()
	for three := range slices.Chunk(numbers, 3) {
		if three[0] == three[1] {
			return impl.Command{}, false
		}
		c.Arcs = append(c.Arcs, arc(three[0], three[1], three[2]))
	}
	return c, true
}

// checkText asks that a text is read as it should be, and that one that is read is the very one that its command is shown as.
func checkText(t *testing.T, text string) {
	t.Helper()
	got, is := impl.ReadCommand(text)
	want, should := readCommandByHand(text)
	if is != should || !sameCommand(got, want) {
		t.Fatalf("%.200q is read as %v %v, not %v %v", text, got, is, want, should)
	}
	if is && (!impl.CommandOk(got) || impl.ShowCommand(got) != text) {
		t.Fatalf("%q is read as %v, which is shown as %q", text, got, impl.ShowCommand(got))
	}
}

// checkCommand asks that a right command is shown to the letter, and read from that field by field.
func checkCommand(t *testing.T, c impl.Command) {
	t.Helper()
	if !impl.CommandOk(c) {
		t.Fatalf("%v is not right", c)
	}
	text := impl.ShowCommand(c)
	if text != commandByHand(c) {
		t.Fatalf("%v is shown as %q, not %q", c, text, commandByHand(c))
	}
	if back, is := impl.ReadCommand(text); !is || !sameCommand(back, c) {
		t.Fatalf("%v is shown as %q, which is read as %v %v", c, text, back, is)
	}
	checkText(t, text)
}

// refuseTexts asks that none of these is a command's.
func refuseTexts(t *testing.T, texts ...string) {
	t.Helper()
	for _, text := range texts {
		if got, is := impl.ReadCommand(text); is || !isZeroCommand(got) {
			t.Errorf("%.80q is read as %v %v", text, got, is)
		}
		checkText(t, text)
	}
}

func TestCommandsToTheLetter(t *testing.T) {
	for text, c := range map[string]impl.Command{
		"none":                          none(),
		"ask 0 1":                       ask(0, 1),
		"ask 1 0":                       ask(1, 0),
		"ask 0 0":                       ask(0, 0),
		"ask 7 7":                       ask(7, 7),
		"ask 0 23":                      ask(0, 23),
		"ask 23 22":                     ask(23, 22),
		"ask 23 23":                     ask(23, 23),
		"ask 10 20":                     ask(10, 20),
		"weigh 0 1 5":                   weigh(arc(0, 1, 5)),
		"weigh 1 0 5":                   weigh(arc(1, 0, 5)),
		"weigh 0 1 1":                   weigh(arc(0, 1, 1)),
		"weigh 0 1 2":                   weigh(arc(0, 1, 2)),
		"weigh 0 1 999999":              weigh(arc(0, 1, 999999)),
		"weigh 0 1 1000000":             weigh(arc(0, 1, 1000000)),
		"weigh 23 22 1000000":           weigh(arc(23, 22, 1000000)),
		"weigh 0 23 10":                 weigh(arc(0, 23, 10)),
		"weigh 0 1 5 1 0 6":             weigh(arc(0, 1, 5), arc(1, 0, 6)),
		"weigh 1 0 6 0 1 5":             weigh(arc(1, 0, 6), arc(0, 1, 5)),
		"weigh 0 1 5 0 1 5":             weigh(arc(0, 1, 5), arc(0, 1, 5)),
		"weigh 0 1 5 0 1 6":             weigh(arc(0, 1, 5), arc(0, 1, 6)),
		"weigh 0 1 6 2 3 100200 0 1 5":  weigh(arc(0, 1, 6), arc(2, 3, 100200), arc(0, 1, 5)),
		"weigh 10 20 30 20 10 300":      weigh(arc(10, 20, 30), arc(20, 10, 300)),
		"weigh 9 10 9 10 9 10 19 9 909": weigh(arc(9, 10, 9), arc(10, 9, 10), arc(19, 9, 909)),
	} {
		if got := impl.ShowCommand(c); got != text {
			t.Errorf("%v is shown as %q, not %q", c, got, text)
		}
		if got, is := impl.ReadCommand(text); !is || !sameCommand(got, c) {
			t.Errorf("%q is read as %v %v, not %v", text, got, is, c)
		}
		checkCommand(t, c)
	}
}

func TestFieldsThatAKindDoesNotHave(t *testing.T) {
	checkCommand(t, impl.Command{Kind: impl.CmNone, Arcs: []impl.Arc{}})
	checkCommand(t, impl.Command{Kind: impl.CmAsk, Arcs: []impl.Arc{}, From: 3, To: 4})
	for _, text := range []string{"none", "ask 3 4"} {
		if c, is := impl.ReadCommand(text); !is || len(c.Arcs) != 0 {
			t.Errorf("%q is read as %v %v", text, c, is)
		}
	}
	for _, text := range []string{"none", "weigh 3 4 5"} {
		if c, is := impl.ReadCommand(text); !is || c.From != 0 || c.To != 0 {
			t.Errorf("%q is read as %v %v", text, c, is)
		}
	}
}

// TestReadCommandOfShowCommand holds promise 9 for each ask, each arc, and batches of each size.
func TestReadCommandOfShowCommand(t *testing.T) {
	checkCommand(t, none())
	weights := []int64{1, 2, 9, 10, 11, 99, 100, 101, 999, 1000, 9999, 10000, 99999, 100000, 100001, impl.MaxWeight - 1, impl.MaxWeight}
	for from := range int64(impl.MaxPlaces) {
		for to := range int64(impl.MaxPlaces) {
			checkCommand(t, ask(from, to))
			for _, weight := range weights {
				if from != to {
					checkCommand(t, weigh(arc(from, to, weight)))
				}
			}
		}
	}
	n := numbersFrom(121)
	for count := 1; count <= impl.MaxBatch; count++ {
		checkCommand(t, weigh(sameArcs(count, arc(0, 1, 5))...))
		checkCommand(t, weigh(sameArcs(count, arc(22, 23, impl.MaxWeight))...))
		checkCommand(t, weigh(sameArcs(count, arc(23, 0, 1))...))
		for range 100 {
			checkCommand(t, weigh(someArcs(&n, count)...))
		}
	}
}

// someArcs are right ones in any order, some named more than once.
func someArcs(n *numbersFrom, count int) []impl.Arc {
	arcs := make([]impl.Arc, count)
	for i := range arcs {
		if i > 0 && n.below(4) == 0 {
			arcs[i] = arcs[n.below(int64(i))]
		} else {
			from := n.below(impl.MaxPlaces)
			arcs[i] = arc(from, (from+1+n.below(impl.MaxPlaces-1))%impl.MaxPlaces, 1)
		}
		arcs[i].Weight = 1 + n.below([]int64{1, 5, 100, impl.MaxWeight}[n.below(4)])
	}
	return arcs
}

func TestUnlikeCommandsHaveUnlikeTexts(t *testing.T) {
	n := numbersFrom(122)
	list := []impl.Command{none()}
	for from := range int64(impl.MaxPlaces) {
		for to := range int64(impl.MaxPlaces) {
			list = append(list, ask(from, to))
		}
	}
	for i := range 3000 {
		list = append(list, weigh(someArcs(&n, 1+i%3)...))
	}
	shown := map[string]impl.Command{}
	for _, c := range list {
		text := impl.ShowCommand(c)
		if other, there := shown[text]; there && !sameCommand(c, other) {
			t.Fatalf("%v and %v are shown as %q", c, other, text)
		}
		shown[text] = c
	}
}

func TestWrongCommandsAreShownAsNothing(t *testing.T) {
	for name, c := range wrongCommands() {
		if text := impl.ShowCommand(c); text != "" {
			t.Errorf("%s: %v is shown as %q", name, c, text)
		}
		checkText(t, commandByHand(c))
	}
	for _, x := range wrongArcs() {
		for count := 1; count <= impl.MaxBatch; count++ {
			for i := range count {
				arcs := sameArcs(count, arc(0, 1, 5))
				arcs[i] = x
				if text := impl.ShowCommand(weigh(arcs...)); text != "" {
					t.Errorf("%v is shown as %q", arcs, text)
				}
				refuseTexts(t, commandByHand(weigh(arcs...)))
			}
		}
	}
}

// TestShowCommandByCommandOk asks that a text comes just where CommandOk is true, and is read back then.
func TestShowCommandByCommandOk(t *testing.T) {
	arcs := fullGraph(11, impl.MaxBatch+1).Arcs
	lists := [][]impl.Arc{nil, {}, arcs[:1], arcs[:impl.MaxBatch], arcs, {arc(0, 0, 1)}, {arc(23, 24, 1)}, {arc(0, 1, 0)}, {arc(0, 1, impl.MaxWeight+1)}}
	numbers := []int64{math.MinInt64, -1, 0, 1, 3, 22, 23, 24, 1 << 32, math.MaxInt64}
	for kind := int64(-3); kind <= 6; kind++ {
		for _, list := range lists {
			for _, from := range numbers {
				for _, to := range numbers {
					c := impl.Command{Kind: kind, Arcs: list, From: from, To: to}
					if impl.CommandOk(c) {
						checkCommand(t, c)
					} else if text := impl.ShowCommand(c); text != "" {
						t.Fatalf("%v is shown as %q", c, text)
					}
				}
			}
		}
	}
}

func TestBatchesAsText(t *testing.T) {
	for count := 1; count <= 3*impl.MaxBatch; count++ {
		text := "weigh" + strings.Repeat(" 23 22 1000000", count)
		if count <= impl.MaxBatch {
			if c, is := impl.ReadCommand(text); !is || !sameCommand(c, weigh(sameArcs(count, arc(23, 22, 1000000))...)) {
				t.Errorf("%d arcs are read as %v %v", count, c, is)
			}
		} else {
			refuseTexts(t, text)
		}
		checkText(t, text)
		for _, over := range []string{" 0", " 0 1", " 0 1 ", " ", "  ", " x", "x", "0", "\n"} {
			refuseTexts(t, text+over)
		}
	}
	refuseTexts(t, "weigh", "weigh ", "weigh  ", "weigh 0", "weigh 0 1", "weigh 0 1 ", "weigh 0 1 5 ", "weigh 0 1 5 1", "weigh 0 1 5 1 0", "weigh 0 1 5 1 0 ")
}

func TestReadCommandRefusesWords(t *testing.T) {
	refuseTexts(t, "", " ", "  ", "\t", "\n", "\r", "\x00", "0", "1", "1 2", "0 1 5", " 0 1", "-", "+", ".", "no", "ok", "ok 1", "nothing", "null", "nil")
	for _, name := range []string{"none", "weigh", "ask"} {
		for behind, rest := range map[string]string{"none": "", "weigh": " 0 1 5", "ask": " 0 1"} {
			if behind == name {
				if _, is := impl.ReadCommand(name + rest); !is {
					t.Errorf("%q is refused", name+rest)
				}
			} else {
				refuseTexts(t, name+rest)
			}
			refuseTexts(t, strings.ToUpper(name)+rest, strings.ToUpper(name[:1])+name[1:]+rest, name[:1]+strings.ToUpper(name[1:])+rest, name[:len(name)-1]+strings.ToUpper(name[len(name)-1:])+rest)
			for i := range len(name) {
				refuseTexts(t, name[:i]+rest, name[i+1:]+rest, name[:i]+name[i+1:]+rest, name[:i]+" "+name[i:]+rest, name[:i]+strings.ToUpper(name[i:i+1])+name[i+1:]+rest)
				for _, letter := range []string{"a", "e", "n", "s", "z", "A", "0", "1", "-", "_", "`", "{", "\x00", "é", "\xff"} {
					refuseTexts(t, name[:i]+letter+name[i:]+rest, name+letter+rest)
				}
			}
			refuseTexts(t, name+name+rest, name+" "+name+rest, name+","+rest, name+":"+rest, `"`+name+`"`+rest, strings.Repeat(name, 1000)+rest)
		}
	}
	refuseTexts(t, "nonе", "ａsk 0 1", "weiɡh 0 1 5", "aſk 0 1", "as\u212a 0 1", "no\u0000ne", "none\u0301")
}

func TestReadCommandRefusesBlanks(t *testing.T) {
	others := []string{"\t", "\n", "\r", "\v", "\f", "\x00", "\r\n", "\u0085", "\u00a0", "\u2003", "\u200b", "\u3000", "\ufeff", "\xa0", "\x85", ",", ";", "_", "-", "+", "."}
	for _, text := range []string{"none", "ask 0 1", "ask 23 23", "weigh 0 1 5", "weigh 10 2 30 2 10 1000000"} {
		checkCommandText(t, text)
		for _, more := range append([]string{" ", "  "}, others...) {
			refuseTexts(t, more+text, text+more, more+text+more)
		}
		for i, letter := range text {
			if letter != ' ' {
				continue
			}
			refuseTexts(t, text[:i]+text[i+1:], text[:i]+" "+text[i:], text[:i]+"   "+text[i:])
			for _, other := range others {
				refuseTexts(t, text[:i]+other+text[i+1:], text[:i]+other+text[i:], text[:i+1]+other+text[i+1:])
			}
		}
	}
}

// checkCommandText asks that a text is a command's: what is made of it and refused is refused for what was made.
func checkCommandText(t *testing.T, text string) {
	t.Helper()
	if c, is := impl.ReadCommand(text); !is || impl.ShowCommand(c) != text {
		t.Fatalf("%q is read as %v %v", text, c, is)
	}
}

func TestReadCommandCountsNumbers(t *testing.T) {
	for count := range 70 {
		numbers := strings.Repeat(" 1 2 3", count)[:2*count]
		for _, name := range []string{"none", "ask", "weigh"} {
			right := name == "none" && count == 0 || name == "ask" && count == 2 || name == "weigh" && count%3 == 0 && count >= 3 && count <= 3*impl.MaxBatch
			if _, is := impl.ReadCommand(name + numbers); is != right {
				t.Errorf("%q: %v", name+numbers, is)
			}
			checkText(t, name+numbers)
		}
	}
	refuseTexts(t, "none 0", "none 1", "none 0 0", "none 0 1 5", "none none", "ask", "ask 0", "ask 0 0 0", "ask 0 1 5", "ask 0 1 5 1", "ask 0 1 ask 0 1", "none ask 0 1", "weigh 0 1 5 ask 0 1", "weigh 0 1 5 none")
}

// wrongNumbers are words that no command has for a number, whatever it stands for.
func wrongNumbers() []string {
	list := []string{
		"", "-", "+", "--1", "-+1", "+-1", "-1", "+1", "-0", "+0", "-5", "+5", "1-", "1+", "1-1", "5-",
		"00", "01", "05", "001", "000", "0000000001", "0000000005", "010", "-01", "+01", "0x1", "0X5", "0b1", "0o5", "x", "a", "1a", "a1", "1x1", "O", "l",
		"1.", ".1", "1.0", "5.0", "1,", "1,0", "1_0", "1e0", "1e1", "1E1", "5e", "Inf", "NaN", "(1)", "'1'", "\"1\"", "$1", "1%", "1\x00", "\x001", "1;", "1/", "/", ":", "1:", "/1",
		"1000001", "1000002", "9999999", "10000000", "99999999", "100000000", "999999999", "1000000000", "9999999999", "4294967296", "4294967297", "4294967301",
		"9223372036854775807", "9223372036854775808", "18446744073709551615", "18446744073709551616", "18446744073709551617", "18446744073709551621", "36893488147419103233",
		"340282366920938463463374607431768211457", "1000000000000000000000000000001", "-9223372036854775808", "-18446744073709551615",
		"1" + strings.Repeat("0", 63) + "1", "1" + strings.Repeat("0", 64), strings.Repeat("9", 1000), strings.Repeat("1", 100000), strings.Repeat("0", 1000) + "1",
		"１", "١", "۱", "१", "১", "𝟏", "²", "½", "Ⅰ", "一", "０", "1１", "１1", "1٠", "\u0661", "1\u0301", "1\u200b", "é", "€", "😀", "\ufffd", "\ufffe", "\u2212" + "1", "＋1", "－1",
		"\xff", "\x80", "\xc3", "1\xc3", "\xc31", "\xe2\x82", "1\xe2\x82", "\xf0\x9f\x98", "\xc0\xb1", "\xe0\x80\xb1", "\xed\xa0\x80", "\xf4\x90\x80\x80", "1\xff", "\xff1", "\xef\xbf\xbd",
	}
	// What each of these numbers would be if it ran over is one that could stand there.
	for _, bits := range []uint{8, 16, 31, 32, 33, 62, 63, 64, 65, 128} {
		for _, more := range []int64{0, 1, 5} {
			if number := new(big.Int).Add(new(big.Int).Lsh(big.NewInt(1), bits), big.NewInt(more)); number.Cmp(big.NewInt(impl.MaxWeight)) > 0 {
				list = append(list, number.String())
			}
		}
	}
	return list
}

func TestReadCommandRefusesNumbers(t *testing.T) {
	for _, word := range wrongNumbers() {
		refuseTexts(t, "none "+word)
		for _, text := range []string{"ask 2 3", "weigh 2 3 5", "weigh 2 3 5 3 2 6", "weigh" + strings.Repeat(" 2 3 5", impl.MaxBatch)} {
			words := strings.Split(text, " ")
			for i := 1; i < len(words); i++ {
				with := slices.Clone(words)
				with[i] = word
				refuseTexts(t, strings.Join(with, " "))
			}
		}
	}
}

func TestPlacesAsText(t *testing.T) {
	const last = impl.MaxPlaces - 1
	for _, a := range []int64{-1, 0, 1, 9, 10, last - 1, last, impl.MaxPlaces, impl.MaxPlaces + 1, 30, 99, 100, 230, 1 << 32} {
		for _, b := range []int64{-1, 0, 1, 9, 10, last - 1, last, impl.MaxPlaces, impl.MaxPlaces + 1, 30, 99, 100, 230, 1 << 32} {
			places := " " + strconv.FormatInt(a, 10) + " " + strconv.FormatInt(b, 10)
			are := min(a, b) >= 0 && max(a, b) <= last
			if _, is := impl.ReadCommand("ask" + places); is != are {
				t.Errorf("ask%s: %v", places, is)
			}
			if _, is := impl.ReadCommand("weigh" + places + " 5"); is != (are && a != b) {
				t.Errorf("weigh%s 5: %v", places, is)
			}
			if _, is := impl.ReadCommand("weigh 0 1 5" + places + " 5"); is != (are && a != b) {
				t.Errorf("weigh 0 1 5%s 5: %v", places, is)
			}
			checkText(t, "ask"+places)
			checkText(t, "weigh"+places+" 5 3 4 5")
		}
	}
}

func TestWeightsAsText(t *testing.T) {
	for _, weight := range []int64{math.MinInt64, -impl.MaxWeight, -1, 0, 1, 2, 9, 10, 99, 100, 999999, impl.MaxWeight, impl.MaxWeight + 1, 1000010, 9999999, 10000000, 999999999, 1000000000, impl.Far, math.MaxInt64} {
		text := "weigh 0 1 " + strconv.FormatInt(weight, 10)
		if _, is := impl.ReadCommand(text); is != (weight >= 1 && weight <= impl.MaxWeight) {
			t.Errorf("%q: %v", text, is)
		}
		checkText(t, text)
		checkText(t, text+" 1 0 5")
	}
}

func TestReadCommandOfTextsNearACommand(t *testing.T) {
	put := []string{"0", "1", "2", "3", "4", "9", " ", "-", "+", "/", ":", "\n", "\t", "a", "e", "n", "A", "`", "{", ".", "\x00", "\x1f", "!", "\x7f", "\x80", "\xc3", "\xff", "é", "１", "١", "😀", "\ufffd"}
	texts := []string{"none", "ask 0 1", "ask 2 23", "weigh 0 1 5", "weigh 10 2 999999", "weigh 0 1 5 1 0 6", "weigh 22 23 1000000 3 22 100 22 23 1"}
	for _, text := range texts {
		checkCommandText(t, text)
		for i := 0; i <= len(text); i++ {
			for _, one := range put {
				checkText(t, text[:i]+one+text[i:])
				if i < len(text) {
					checkText(t, text[:i]+one+text[i+1:])
				}
			}
			for k := i; k <= len(text); k++ {
				checkText(t, text[i:k])
				checkText(t, text[:i]+text[k:])
				checkText(t, text[:k]+text[i:])
			}
		}
		for i := 0; i+1 < len(text); i++ {
			checkText(t, text[:i]+text[i+1:i+2]+text[i:i+1]+text[i+2:])
		}
		for _, other := range texts {
			checkText(t, text+other)
			checkText(t, text+" "+other)
			checkText(t, text+"\n"+other)
		}
	}
}

func TestReadCommandOfEachByte(t *testing.T) {
	for b := range 256 {
		one := string([]byte{byte(b)})
		for _, text := range []string{one, "non" + one, one + "one", "none" + one, "ask" + one + "0 1", "ask 0" + one + "1", "ask 0 " + one, "ask " + one + " 1", "ask 0 1" + one, "weigh 0 1 " + one, "weigh 0 1 5" + one, "weigh 0 " + one + " 5"} {
			checkText(t, text)
		}
	}
}

// TestReadCommandOfAllShortTexts goes through all that can stand behind a name, up to a length.
func TestReadCommandOfAllShortTexts(t *testing.T) {
	put := []string{" ", "0", "1", "2", "4", "-", "a", "\xff"}
	for _, name := range []string{"", "none", "ask", "ask ", "ask 1", "weigh 0 1", "weigh 0 1 5", "weigh 2 3 5 1 2"} {
		tails := []string{""}
		for range 5 {
			var longer []string
			for _, tail := range tails {
				checkText(t, name+tail)
				for _, one := range put {
					longer = append(longer, tail+one)
				}
			}
			tails = longer
		}
		for _, tail := range tails {
			checkText(t, name+tail)
		}
	}
}

func TestReadCommandOfLongTexts(t *testing.T) {
	for _, one := range []string{" ", "0", "1", "9", "a", "n", "none", "none ", "ask 0 1", "ask 0 1 ", " 0", " 1 2 5", "\x00", "\xff", "é", "😀", "\n"} {
		long := strings.Repeat(one, 200000)
		refuseTexts(t, long, "none"+long, "none "+long, "ask 0 1"+long, "ask 0 "+long, "ask "+long, "weigh"+long, "weigh 0 1 "+long, "weigh 0 1 5"+long, "weigh 0 1 5 "+long, "x"+long)
	}
}

// sumByPowers is Sum from the last byte on: each byte, and the 5 ahead of them, has a power of 131.
func sumByPowers(text string) int64 {
	sum, power := int64(0), int64(1)
	for _, b := range slices.Backward([]byte(text)) {
		sum += power * int64(b)
		power = power * 131 % 1000003
	}
	return (sum + power*5) % 1000003
}

func checkSum(t *testing.T, text string) {
	t.Helper()
	got := impl.Sum(text)
	if got < 0 || got > 1000002 {
		t.Fatalf("the sum of %.80q is %d", text, got)
	}
	if want := sumByPowers(text); got != want {
		t.Fatalf("the sum of %.80q is %d, not %d", text, got, want)
	}
}

func TestSumToTheLetter(t *testing.T) {
	for text, want := range map[string]int64{
		"":             5,
		"\x00":         655,
		" ":            687,
		"a":            752,
		"\xe9":         888,
		"\xff":         910,
		"\x00\x00":     85805,
		"\x00\x00\x00": 240422,
		"\xff\xff":     119465,
		"ab":           98610,
		"ba":           98740,
		"\u00e9":       111519, // two bytes: 195 and 169
		"+\xa4\xad":    1000002,
		"+\xa4\xae":    0,
		"none":         703834,
		"ask 0 1":      69120,
		"ask 1 0":      86280,
		"weigh 0 1 5":  666436,
	} {
		if got := impl.Sum(text); got != want {
			t.Errorf("the sum of %q is %d, not %d", text, got, want)
		}
		checkSum(t, text)
	}
}

// TestSumOfEachByte asks of each byte alone, too, that it counts as a byte: a rune that it begins or ends does not.
func TestSumOfEachByte(t *testing.T) {
	for b := range int64(256) {
		one := string([]byte{byte(b)})
		if got := impl.Sum(one); got != 655+b {
			t.Errorf("the sum of %q is %d, not %d", one, got, 655+b)
		}
		for _, ahead := range []string{"", "a", "\x00", "\xff", "\xc3", "\xe2\x82", "none", "ask 0 1"} {
			if got, want := impl.Sum(ahead+one), (131*impl.Sum(ahead)+b)%1000003; got != want {
				t.Errorf("the sum of %q is %d, not %d", ahead+one, got, want)
			}
			checkSum(t, ahead+one)
			checkSum(t, one+ahead)
		}
	}
}

func TestSumTakesBytesNotRunes(t *testing.T) {
	for _, text := range []string{"é", "€", "😀", "１", "\ufffd", "\xff", "\xc3", "\xe2\x82", "\xed\xa0\x80", "aéb", "\x00é\x00", "é€😀"} {
		h := int64(5)
		for i := range len(text) {
			h = (131*h + int64(text[i])) % 1000003
		}
		if got := impl.Sum(text); got != h {
			t.Errorf("the sum of %q is %d, not %d", text, got, h)
		}
		checkSum(t, text)
	}
	// As runes, all of these would be alike.
	if impl.Sum("\xfe") == impl.Sum("\xff") || impl.Sum("\xff") == impl.Sum("\ufffd") || impl.Sum("\xc3\xc3") == impl.Sum("\xc3\xc4") {
		t.Error("bytes that are no rune have one sum")
	}
}

// TestSumOfAllPairs asks that two bytes have a sum of their own, whatever their order.
func TestSumOfAllPairs(t *testing.T) {
	for a := range 256 {
		for b := range 256 {
			text, turned := string([]byte{byte(a), byte(b)}), string([]byte{byte(b), byte(a)})
			checkSum(t, text)
			if a != b && impl.Sum(text) == impl.Sum(turned) {
				t.Fatalf("%q and %q have one sum", text, turned)
			}
		}
	}
}

func TestSumOfLongTexts(t *testing.T) {
	n := numbersFrom(123)
	for _, one := range []string{"\x00", "\x01", "a", "\x7f", "\x80", "\xff", "é", "none\n", "\xff\x00"} {
		for _, count := range []int{2, 3, 4, 8, 9, 100, 1000, 7634, 7635, 100000, 1000002, 1000003, 1000004} {
			checkSum(t, strings.Repeat(one, count))
		}
	}
	for range 300 {
		bytes := make([]byte, n.below(2000))
		for i := range bytes {
			bytes[i] = byte(n.below(256))
		}
		checkSum(t, string(bytes))
	}
}

// TestSumsOfTextsThatDiffer asks of one byte that is another, and of two neighbours that change places: 1000003 is a prime, so the sum is another too.
func TestSumsOfTextsThatDiffer(t *testing.T) {
	for _, text := range []string{"none", "ask 0 1", "weigh 0 1 5 1 0 6", "\x00\xff\x00\xff", "é€", strings.Repeat("ab", 500)} {
		sum := impl.Sum(text)
		for i := range len(text) {
			for _, b := range []byte{0, 1, ' ', '0', 'a', 0x7f, 0x80, 0xff, text[i] + 1, text[i] - 1} {
				other := text[:i] + string([]byte{b}) + text[i+1:]
				checkSum(t, other)
				if b != text[i] && impl.Sum(other) == sum {
					t.Fatalf("%.80q and %.80q have one sum", text, other)
				}
			}
			if i > 0 && text[i-1] != text[i] {
				other := text[:i-1] + text[i:i+1] + text[i-1:i] + text[i+1:]
				checkSum(t, other)
				if impl.Sum(other) == sum {
					t.Fatalf("%.80q and %.80q have one sum", text, other)
				}
			}
		}
		for _, other := range []string{text + "\x00", "\x00" + text, text + " ", text[1:], text[:len(text)-1], text + text} {
			checkSum(t, other)
			if impl.Sum(other) == sum {
				t.Fatalf("%.80q and %.80q have one sum", text, other)
			}
		}
	}
}

func TestSumsOfCommands(t *testing.T) {
	n := numbersFrom(124)
	for i := range 2000 {
		text := impl.ShowCommand(weigh(someArcs(&n, 1+i%impl.MaxBatch)...))
		checkSum(t, text)
		if impl.Sum(text) != impl.Sum(strings.Clone(text)) {
			t.Fatalf("%q has two sums", text)
		}
	}
}

// keptText is a text in memory that can be written into, to see whether an answer is kept there.
func keptText(text string) (string, func()) {
	memory := []byte(text)
	if len(memory) == 0 {
		return "", func() {}
	}
	return unsafe.String(&memory[0], len(memory)), func() { overwrite(memory, '7') }
}

func TestCommandArgumentsStay(t *testing.T) {
	n := numbersFrom(125)
	list := append(manyCommands(&n, ring(4, 7)), none(), ask(1, 2))
	for _, c := range wrongCommands() {
		list = append(list, c)
	}
	for i := range 50 {
		list = append(list, weigh(someArcs(&n, 1+i%impl.MaxBatch)...))
	}
	for _, c := range list {
		arcs := watch(c.Arcs, markedArc)
		d := impl.Command{Kind: c.Kind, Arcs: arcs.list, From: c.From, To: c.To}
		text := impl.ShowCommand(d)
		again := impl.ShowCommand(d)
		arcs.check(t, "ShowCommand")
		kept := strings.Clone(text)
		overwrite(arcs.whole, arc(-4, -5, -6))
		if text != kept || again != kept {
			t.Fatalf("%v: what it is shown as changed with it: %q %q, were %q", c, text, again, kept)
		}
		memory, write := keptText(kept)
		back, is := impl.ReadCommand(memory)
		impl.Sum(memory)
		if memory != kept {
			t.Fatalf("%q was written into: %q", kept, memory)
		}
		write()
		if is != impl.CommandOk(c) || is && !sameCommand(back, c) {
			t.Fatalf("%q, overwritten once it was read, is %v %v, not %v", kept, back, is, c)
		}
	}
}

func TestReadCommandAnswersAreNew(t *testing.T) {
	for _, text := range []string{"none", "ask 3 4", "weigh 0 1 5", "weigh 0 1 5 1 0 6", "weigh" + strings.Repeat(" 23 22 1000000", impl.MaxBatch), "weigh 0 0 5", "weigh 0 1 5 1", ""} {
		first, _ := impl.ReadCommand(text)
		second, is := impl.ReadCommand(text)
		kept := cloneCommand(second)
		overwrite(first.Arcs, markedArc)
		third, still := impl.ReadCommand(text)
		if is != still || !sameCommand(second, kept) || !sameCommand(third, kept) {
			t.Fatalf("%q: writing into one answer changed another: %v %v, were %v", text, second, third, kept)
		}
		if is && impl.ShowCommand(second) != text {
			t.Fatalf("%q is shown as %q", text, impl.ShowCommand(second))
		}
	}
}

// TestReadCommandsGoToTheService asks that a command that was read does there what the one that was shown does.
func TestReadCommandsGoToTheService(t *testing.T) {
	n := numbersFrom(126)
	g := ring(6, 7)
	s := newService(g)
	for range 60 {
		c := someCommand(&n, g)
		back, is := impl.ReadCommand(impl.ShowCommand(c))
		if !is || !sameService(impl.Apply(s, back), appliedByWords(s, c)) {
			t.Fatalf("%v, shown and read: %v %v", c, back, is)
		}
		s = impl.Apply(s, back)
	}
}
