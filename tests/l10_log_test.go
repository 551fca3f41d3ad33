package tests

import (
	"math"
	"slices"
	"strconv"
	"strings"
	"testing"

	"loop.example/g00161/impl"
)

var markedEntry = impl.Entry{Term: -7, Text: markedText}

func entry(term int64, text string) impl.Entry {
	return impl.Entry{Term: term, Text: text}
}

// logOf has the Terms, and texts that tell where an entry stood, and of which list.
func logOf(list int64, terms ...int64) []impl.Entry {
	log := make([]impl.Entry, len(terms))
	for i, term := range terms {
		log[i] = entry(term, "ask "+strconv.FormatInt(list, 10)+" "+strconv.Itoa(i%impl.MaxPlaces))
	}
	return log
}

func alike(count int, term int64) []int64 {
	return slices.Repeat([]int64{term}, count)
}

func termsOf(log []impl.Entry) []int64 {
	terms := make([]int64, len(log))
	for i, one := range log {
		terms[i] = one.Term
	}
	return terms
}

// allTerms are all lists of at most so many Terms from 0 up to the greatest.
func allTerms(most int, greatest int64) [][]int64 {
	all := [][]int64{{}}
	for i := 0; i < len(all); i++ {
		if len(all[i]) == most {
			continue
		}
		for term := range greatest + 1 {
			all = append(all, append(slices.Clone(all[i]), term))
		}
	}
	return all
}

// someLog is a right one of that many entries, with Terms that stay or rise.
func someLog(n *numbersFrom, count int64) []impl.Entry {
	log := make([]impl.Entry, count)
	term := 1 + n.below(3)
	for i := range log {
		term += n.below(2) * n.below(3)
		text := commandByHand(ask(n.below(impl.MaxPlaces), n.below(impl.MaxPlaces)))
		if n.below(3) == 0 {
			text = commandByHand(weigh(someArcs(n, 1+int(n.below(3)))...))
		}
		log[i] = entry(term, text)
	}
	return log
}

func commandTexts() []string {
	return []string{"none", "ask 0 1", "ask 23 23", "weigh 0 1 5", "weigh 0 1 5 1 0 6", "weigh" + strings.Repeat(" 23 22 1000000", impl.MaxBatch)}
}

func otherTexts() []string {
	return []string{
		"", " ", "non", "nonee", "none ", " none", "None", "none 1", "\n", "none\n", "\x00",
		"as 0 1", "ask", "ask ", "ask 0", "ask 0 ", "ask 0 1 ", "ask 0 1 2", "ask 00 1", "ask 0 01", "ask 0 24", "ask -1 0", "ask 0  1", "ask 0 1\n",
		"weigh", "weig 0 1 5", "weigh 0 1", "weigh 0 1 05", "weigh 0 1 0", "weigh 0 0 5", "weigh 0 1 1000001", "weigh 0 1 5 1",
		"weigh" + strings.Repeat(" 23 22 1000000", impl.MaxBatch+1), "no", "ok 1", "1", "\xff", "nonе",
	}
}

// logRightByWords is LogOk by the words of the chapter.
func logRightByWords(log []impl.Entry) bool {
	terms := termsOf(log)
	return len(log) <= 200 && slices.IsSorted(terms) &&
		!slices.ContainsFunc(terms, func(term int64) bool { return term < 1 || term > 100000 }) &&
		!slices.ContainsFunc(log, func(one impl.Entry) bool { _, is := readCommandByHand(one.Text); return !is })
}

// howManyAgree is how many of the entries, from the first one on, have the Terms that the log has from number index + 1 on: the most for which that holds.
func howManyAgree(log []impl.Entry, index int64, entries []impl.Entry) int {
	behind := termsOf(log[index:])
	for count := min(len(entries), len(behind)); ; count-- {
		if slices.Equal(behind[:count], termsOf(entries[:count])) {
			return count
		}
	}
}

// mergedByWords is Merge by the words of the chapter.
func mergedByWords(log []impl.Entry, index int64, entries []impl.Entry) ([]impl.Entry, bool) {
	if !logRightByWords(log) || index < 0 || index > int64(len(log)) {
		return nil, false
	}
	merged := slices.Clone(log)
	if agree := howManyAgree(log, index, entries); agree < len(entries) {
		merged = append(merged[:int(index)+agree], entries[agree:]...)
	}
	if !logRightByWords(merged) {
		return nil, false
	}
	return merged, true
}

// checkMerge holds promise 10 for one Merge, and tells what came of it.
func checkMerge(t *testing.T, log []impl.Entry, index int64, entries []impl.Entry) ([]impl.Entry, bool) {
	t.Helper()
	got, is := impl.Merge(log, index, entries)
	want, should := mergedByWords(log, index, entries)
	if is != should || !slices.Equal(got, want) {
		t.Fatalf("%v, and from %d on %v: %v %v, not %v %v", log, index, entries, got, is, want, should)
	}
	if is {
		checkStands(t, log, index, entries, got)
	}
	return got, is
}

// checkStands asks of a log that came that what was merged stands there, and that what agreed stays.
func checkStands(t *testing.T, log []impl.Entry, index int64, entries []impl.Entry, merged []impl.Entry) {
	t.Helper()
	if !impl.LogOk(merged) || int64(len(merged)) < index+int64(len(entries)) || !slices.Equal(merged[:index], log[:index]) {
		t.Fatalf("%v, and from %d on %v: %v", log, index, entries, merged)
	}
	agree := howManyAgree(log, index, entries)
	for i, one := range entries {
		at := int(index) + i
		if merged[at].Term != one.Term || i < agree && merged[at] != log[at] || i >= agree && merged[at] != one {
			t.Fatalf("%v, and from %d on %v: %v at number %d", log, index, entries, merged[at], at+1)
		}
		if !impl.Fits(merged, int64(at+1), one.Term) {
			t.Fatalf("%v, and from %d on %v: %v does not fit at number %d", log, index, entries, merged, at+1)
		}
	}
	again, is := impl.Merge(merged, index, entries)
	if !is || !slices.Equal(again, merged) {
		t.Fatalf("%v, and from %d on %v, once more: %v %v", merged, index, entries, again, is)
	}
}

// takeMerge asks that a log comes, and that it is just this one.
func takeMerge(t *testing.T, log []impl.Entry, index int64, entries []impl.Entry, want []impl.Entry) {
	t.Helper()
	got, is := checkMerge(t, log, index, entries)
	if !is || !slices.Equal(got, want) {
		t.Fatalf("%v, and from %d on %v: %v %v, not %v", log, index, entries, got, is, want)
	}
}

// refuseMerge asks that nothing comes, and false.
func refuseMerge(t *testing.T, log []impl.Entry, index int64, entries []impl.Entry) {
	t.Helper()
	if got, is := checkMerge(t, log, index, entries); is || len(got) != 0 {
		t.Fatalf("%d entries, and from %d on %d: %v %v", len(log), index, len(entries), got, is)
	}
}

func checkLogOk(t *testing.T, log []impl.Entry, right bool) {
	t.Helper()
	if got := impl.LogOk(log); got != right || right != logRightByWords(log) {
		t.Fatalf("%.400v: %v, not %v", log, got, right)
	}
}

func TestLogLimits(t *testing.T) {
	if impl.MaxTerm != 100000 || impl.MaxLog != 200 {
		t.Fatal(impl.MaxTerm, impl.MaxLog)
	}
}

func TestLogOkOfTerms(t *testing.T) {
	checkLogOk(t, nil, true)
	checkLogOk(t, []impl.Entry{}, true)
	checkLogOk(t, []impl.Entry{{}}, false)
	for _, term := range []int64{1, 2, 99, impl.MaxTerm - 1, impl.MaxTerm} {
		checkLogOk(t, logOf(0, term), true)
		checkLogOk(t, logOf(0, term, term), true)
		checkLogOk(t, logOf(0, 1, term), true)
		checkLogOk(t, logOf(0, term, impl.MaxTerm), true)
		checkLogOk(t, logOf(0, 1, term, term, impl.MaxTerm), true)
	}
	for _, term := range []int64{0, -1, -impl.MaxTerm, math.MinInt64, impl.MaxTerm + 1, 1 << 32, 1<<32 + 1, impl.Far, math.MaxInt64} {
		checkLogOk(t, logOf(0, term), false)
		checkLogOk(t, logOf(0, term, term), false)
		checkLogOk(t, logOf(0, term, impl.MaxTerm), false)
		checkLogOk(t, logOf(0, 1, term), false)
		checkLogOk(t, logOf(0, 1, term, impl.MaxTerm), false)
	}
	for _, terms := range [][]int64{{1, 2, 3}, {1, 1, 1}, {1, 1, 2}, {1, 2, 2}, {1, 100000}, {5, 5, 7, 7, 7, 100000, 100000}} {
		checkLogOk(t, logOf(0, terms...), true)
	}
	for _, terms := range [][]int64{{2, 1}, {3, 2, 1}, {1, 2, 1}, {2, 1, 1}, {1, 1, 3, 2}, {1, 3, 2, 3}, {2, 1, 2}, {100000, 99999}, {100000, 1}, {1, 2, 3, 4, 3}} {
		checkLogOk(t, logOf(0, terms...), false)
	}
	for _, terms := range allTerms(5, 3) {
		checkLogOk(t, logOf(0, terms...), slices.IsSorted(terms) && !slices.Contains(terms, 0))
	}
}

func TestLogOkOfTexts(t *testing.T) {
	for _, text := range commandTexts() {
		checkLogOk(t, []impl.Entry{entry(1, text)}, true)
		checkLogOk(t, []impl.Entry{entry(1, "none"), entry(2, text), entry(2, text)}, true)
	}
	for _, text := range otherTexts() {
		checkLogOk(t, []impl.Entry{entry(1, text)}, false)
		for i := range 4 {
			log := logOf(0, 1, 1, 2, 3)
			log[i].Text = text
			checkLogOk(t, log, false)
		}
	}
}

func TestLogOkOfManyEntries(t *testing.T) {
	for _, term := range []int64{1, impl.MaxTerm} {
		checkLogOk(t, logOf(0, alike(impl.MaxLog-1, term)...), true)
		checkLogOk(t, logOf(0, alike(impl.MaxLog, term)...), true)
		checkLogOk(t, logOf(0, alike(impl.MaxLog+1, term)...), false)
		checkLogOk(t, logOf(0, alike(2*impl.MaxLog, term)...), false)
	}
	rising := upTo(impl.MaxLog + 2)[1:]
	checkLogOk(t, logOf(0, rising[:impl.MaxLog]...), true)
	checkLogOk(t, logOf(0, rising...), false)
	checkLogOk(t, logOf(0, alike(1000000, 1)...), false)
	for i := range impl.MaxLog {
		log := logOf(0, alike(impl.MaxLog, 2)...)
		log[i].Term = 1
		checkLogOk(t, log, i == 0)
		log[i].Term = 3
		checkLogOk(t, log, i == impl.MaxLog-1)
		log[i] = entry(2, "")
		checkLogOk(t, log, false)
	}
}

func TestLastTerm(t *testing.T) {
	for want, log := range map[int64][]impl.Entry{
		0:            nil,
		1:            logOf(0, 1),
		2:            logOf(0, 1, 2),
		3:            logOf(0, 1, 1, 3, 3),
		7:            logOf(0, 7),
		9:            logOf(0, upTo(10)[1:]...),
		200:          logOf(0, upTo(201)[1:]...),
		impl.MaxTerm: logOf(0, 1, impl.MaxTerm),
	} {
		if got := impl.LastTerm(log); got != want {
			t.Errorf("%v: %d, not %d", log, got, want)
		}
	}
	if got := impl.LastTerm([]impl.Entry{}); got != 0 {
		t.Error(got)
	}
}

// TestLastTermOfWrongLogs: the chapter names no answer for them, so it is the last entry's Term there too.
func TestLastTermOfWrongLogs(t *testing.T) {
	for _, last := range []int64{math.MinInt64, -1, 0, 1, impl.MaxTerm, impl.MaxTerm + 1, math.MaxInt64} {
		for _, ahead := range [][]int64{{}, {5}, {5, 3}, {0}, alike(impl.MaxLog, 1), alike(impl.MaxLog+1, 1)} {
			log := append(logOf(0, ahead...), entry(last, ""))
			if got := impl.LastTerm(log); got != last {
				t.Errorf("%v: %d, not %d", log, got, last)
			}
		}
	}
}

// wrongLogs are no logs, for one fault each.
func wrongLogs() map[string][]impl.Entry {
	all := map[string][]impl.Entry{
		"Term 0":             logOf(0, 0),
		"Term 0 ahead":       logOf(0, 0, 1, 1),
		"Term -1":            logOf(0, -1, 1, 1),
		"MaxTerm and 1":      logOf(0, 1, 1, impl.MaxTerm+1),
		"falling":            logOf(0, 1, 2, 1),
		"falling at once":    logOf(0, 2, 1, 3),
		"falling at the end": logOf(0, 1, 1, 2, 3, 2),
		"MaxLog and 1":       logOf(0, alike(impl.MaxLog+1, 1)...),
		"many":               logOf(0, alike(1000, 1)...),
		"zero entry":         {{}},
	}
	for i, text := range otherTexts() {
		all["a text that is none "+strconv.Itoa(i)] = []impl.Entry{entry(1, "none"), entry(1, text), entry(1, "none")}
	}
	return all
}

func nearNumbers(log []impl.Entry) []int64 {
	end := int64(len(log))
	near := []int64{math.MinInt64, math.MinInt64 + 1, -1 << 32, -end - 1, -end, -2, -1, end + 1, end + 2, 2 * end, impl.MaxLog, impl.MaxLog + 1, 1 << 32, 1<<32 + 1, math.MaxInt64 - 1, math.MaxInt64}
	return append(near, upTo(end+1)...)
}

func nearTerms(log []impl.Entry) []int64 {
	near := []int64{math.MinInt64, -impl.MaxTerm, -1, 0, 1, 2, 3, 4, impl.MaxTerm, impl.MaxTerm + 1, 1 << 32, math.MaxInt64}
	for _, term := range termsOf(log) {
		near = append(near, term-1, term, term+1)
	}
	return near
}

// withNeighbours is the entry of that number, with the one ahead of it and the one behind it, as far as they are there.
func withNeighbours(log []impl.Entry, number int64) []impl.Entry {
	at := min(max(number, 0), int64(len(log)))
	return log[max(at-2, 0):min(at+1, int64(len(log)))]
}

// fitsByWords is Fits by the words of the chapter.
func fitsByWords(log []impl.Entry, index, term int64) bool {
	if !logRightByWords(log) {
		return false
	}
	for i, one := range log {
		if int64(i)+1 == index && one.Term == term {
			return true
		}
	}
	return index == 0 && term == 0
}

func TestFitsToTheLetter(t *testing.T) {
	log := logOf(0, 1, 1, 3)
	for _, one := range []struct {
		index, term int64
		want        bool
	}{
		{0, 0, true}, {0, 1, false}, {0, 3, false}, {0, -1, false},
		{1, 1, true}, {1, 0, false}, {1, 2, false}, {1, 3, false},
		{2, 1, true}, {2, 0, false}, {2, 2, false}, {2, 3, false},
		{3, 3, true}, {3, 1, false}, {3, 2, false}, {3, 4, false}, {3, 0, false},
		{4, 3, false}, {4, 0, false}, {4, 4, false}, {-1, 0, false}, {-1, 1, false}, {-1, 3, false},
		{math.MinInt64, 0, false}, {math.MaxInt64, 0, false}, {math.MinInt64, 1, false}, {math.MaxInt64, 3, false},
	} {
		if got := impl.Fits(log, one.index, one.term); got != one.want {
			t.Errorf("number %d, Term %d: %v", one.index, one.term, got)
		}
	}
	if !impl.Fits(nil, 0, 0) || impl.Fits(nil, 0, 1) || impl.Fits(nil, 1, 0) || impl.Fits(nil, 1, 1) || impl.Fits(nil, -1, 0) {
		t.Error("a log of none")
	}
}

func TestFitsAtEachNumber(t *testing.T) {
	n := numbersFrom(127)
	logs := [][]impl.Entry{nil, logOf(0, 1), logOf(0, impl.MaxTerm), logOf(0, alike(impl.MaxLog, impl.MaxTerm)...), logOf(0, upTo(impl.MaxLog + 1)[1:]...)}
	for _, terms := range allTerms(4, 3) {
		logs = append(logs, logOf(0, terms...))
	}
	for count := range int64(30) {
		logs = append(logs, someLog(&n, count))
	}
	for _, log := range logs {
		for _, index := range nearNumbers(log) {
			for _, term := range nearTerms(withNeighbours(log, index)) {
				if got := impl.Fits(log, index, term); got != fitsByWords(log, index, term) {
					t.Fatalf("%v, number %d, Term %d: %v", log, index, term, got)
				}
			}
		}
	}
}

func TestFitsOfWrongLogs(t *testing.T) {
	for name, log := range wrongLogs() {
		for _, index := range nearNumbers(log) {
			for _, term := range []int64{-1, 0, 1, 2, impl.MaxTerm + 1} {
				if impl.Fits(log, index, term) {
					t.Fatalf("%s: number %d, Term %d", name, index, term)
				}
			}
		}
	}
}

func TestMergeToTheLetter(t *testing.T) {
	log := []impl.Entry{{Term: 1, Text: "none"}, {Term: 1, Text: "ask 0 1"}, {Term: 3, Text: "none"}}
	takeMerge(t, log, 1, []impl.Entry{{Term: 1, Text: "ask 0 1"}, {Term: 4, Text: "none"}},
		[]impl.Entry{{Term: 1, Text: "none"}, {Term: 1, Text: "ask 0 1"}, {Term: 4, Text: "none"}})
	takeMerge(t, log, 0, []impl.Entry{{Term: 1, Text: "none"}}, log)
	takeMerge(t, log, 0, []impl.Entry{{Term: 2, Text: "ask 5 6"}}, []impl.Entry{{Term: 2, Text: "ask 5 6"}})
	takeMerge(t, log, 3, []impl.Entry{{Term: 3, Text: "ask 5 6"}},
		[]impl.Entry{{Term: 1, Text: "none"}, {Term: 1, Text: "ask 0 1"}, {Term: 3, Text: "none"}, {Term: 3, Text: "ask 5 6"}})
	takeMerge(t, nil, 0, []impl.Entry{{Term: 7, Text: "weigh 0 1 5"}}, []impl.Entry{{Term: 7, Text: "weigh 0 1 5"}})
	refuseMerge(t, log, 3, []impl.Entry{{Term: 2, Text: "none"}})
	refuseMerge(t, log, 4, []impl.Entry{{Term: 3, Text: "none"}})
	refuseMerge(t, log, -1, []impl.Entry{{Term: 1, Text: "none"}})
	refuseMerge(t, log, 3, []impl.Entry{{Term: 3, Text: "ask 00 1"}})
}

func TestMergeOfNoEntries(t *testing.T) {
	n := numbersFrom(128)
	for _, count := range []int64{0, 1, 2, 5, impl.MaxLog} {
		log := someLog(&n, count)
		for _, index := range nearNumbers(log) {
			if index >= 0 && index <= count {
				takeMerge(t, log, index, nil, log)
				takeMerge(t, log, index, []impl.Entry{}, log)
			} else {
				refuseMerge(t, log, index, nil)
				refuseMerge(t, log, index, logOf(1, 100, 100))
			}
		}
	}
}

// TestMergeOfWhatIsThere: all that the log has, fewer, or with other texts, change nothing, however much of the log is behind them.
func TestMergeOfWhatIsThere(t *testing.T) {
	n := numbersFrom(129)
	for _, count := range []int64{1, 2, 3, 7, 12} {
		log := someLog(&n, count)
		for from := range count + 1 {
			for to := from; to <= count; to++ {
				takeMerge(t, log, from, log[from:to], log)
				takeMerge(t, log, from, logOf(9, termsOf(log[from:to])...), log)
			}
			more := append(slices.Clone(log[from:]), logOf(9, 100, 100, 101)...)
			takeMerge(t, log, from, more, append(slices.Clone(log[:from]), more...))
			others := logOf(9, termsOf(more)...)
			takeMerge(t, log, from, others, append(slices.Clone(log), others[count-from:]...))
		}
	}
}

// TestMergeCutsAtAnotherTerm: the log ends at the first entry that has another Term, whatever is behind it.
func TestMergeCutsAtAnotherTerm(t *testing.T) {
	log := logOf(0, 1, 2, 2, 4, 4, 6, 6)
	for index := range len(log) {
		for end := index + 1; end <= len(log)+2; end++ {
			for at := index; at < min(end, len(log)); at++ {
				terms := termsOf(append(slices.Clone(log), logOf(0, 6, 6)...))[index:end]
				for i := at - index; i < len(terms); i++ {
					terms[i] = max(terms[i], log[at].Term+1)
				}
				entries := logOf(1, terms...)
				takeMerge(t, log, int64(index), entries, append(slices.Clone(log[:at]), entries[at-index:]...))
			}
		}
	}
}

// TestMergeTakesALesserTerm: another Term may be one below, where what stays ahead of it is not above it.
func TestMergeTakesALesserTerm(t *testing.T) {
	log := logOf(0, 1, 3, 3, 5)
	for _, index := range []int64{0, 1} {
		entries := logOf(1, []int64{1, 2}[index:]...)
		takeMerge(t, log, index, entries, []impl.Entry{log[0], entries[1-index]})
	}
	takeMerge(t, log, 3, logOf(1, 4), append(slices.Clone(log[:3]), logOf(1, 4)...))
	takeMerge(t, log, 3, logOf(1, 3), append(slices.Clone(log[:3]), logOf(1, 3)...))
	takeMerge(t, log, 2, logOf(1, 3, 4), append(slices.Clone(log[:3]), logOf(1, 3, 4)[1]))
	refuseMerge(t, log, 3, logOf(1, 2))
	refuseMerge(t, log, 2, logOf(1, 2))
	refuseMerge(t, log, 2, logOf(1, 3, 2))
	refuseMerge(t, log, 4, logOf(1, 4))
	refuseMerge(t, log, 0, logOf(1, 1, 3, 3, 5, 4))
	refuseMerge(t, log, 0, logOf(1, 2, 1))
	refuseMerge(t, log, 4, logOf(1, 6, 5))
}

func TestMergeOfAllShortLists(t *testing.T) {
	lists := allTerms(3, 4)
	for _, terms := range allTerms(4, 3) {
		log := logOf(0, terms...)
		for _, list := range lists {
			entries := logOf(1, list...)
			for index := int64(-1); index <= int64(len(log))+1; index++ {
				checkMerge(t, log, index, entries)
			}
		}
	}
}

func TestMergeOfMadeLists(t *testing.T) {
	n := numbersFrom(130)
	taken := 0
	for range 4000 {
		log := someLog(&n, n.below(12))
		index := n.below(int64(len(log)) + 1)
		entries := slices.Clone(log[index:])
		entries = entries[:n.below(int64(len(entries))+1)]
		for i := range entries {
			if n.below(6) == 0 {
				entries[i].Term += n.below(5) - 1
			}
		}
		entries = append(entries, logOf(2, slices.Sorted(slices.Values(shuffled(&n, n.below(4))))...)...)
		for i := range entries {
			if i > 0 {
				entries[i].Term = max(entries[i].Term, entries[i-1].Term-n.below(2)*n.below(2)*n.below(2))
			}
		}
		if _, is := checkMerge(t, log, index, entries); is {
			taken++
		}
		for _, far := range nearNumbers(log) {
			checkMerge(t, log, far, entries)
		}
	}
	if taken < 1000 {
		t.Fatalf("only %d were taken", taken)
	}
}

// TestMergeOfTexts: a text that is none is refused where it would come into the log; where the log's own entry stays, what comes is the log.
func TestMergeOfTexts(t *testing.T) {
	log := logOf(0, 1, 1, 2)
	for _, text := range commandTexts() {
		takeMerge(t, log, 3, []impl.Entry{entry(2, text)}, append(slices.Clone(log), entry(2, text)))
		takeMerge(t, log, 1, []impl.Entry{entry(3, text)}, append(slices.Clone(log[:1]), entry(3, text)))
	}
	for _, text := range otherTexts() {
		refuseMerge(t, nil, 0, []impl.Entry{entry(1, text)})
		refuseMerge(t, log, 3, []impl.Entry{entry(2, text)})
		refuseMerge(t, log, 3, []impl.Entry{entry(2, "none"), entry(2, text)})
		refuseMerge(t, log, 3, []impl.Entry{entry(2, text), entry(2, "none")})
		refuseMerge(t, log, 0, []impl.Entry{entry(2, text)})
		refuseMerge(t, log, 2, []impl.Entry{entry(2, "none"), entry(2, text)})
		refuseMerge(t, log, 1, []impl.Entry{entry(1, "none"), entry(3, text), entry(3, "none")})
		takeMerge(t, log, 0, []impl.Entry{entry(1, text)}, log)
		takeMerge(t, log, 2, []impl.Entry{entry(2, text)}, log)
		takeMerge(t, log, 2, []impl.Entry{entry(2, text), entry(2, "none")}, append(slices.Clone(log), entry(2, "none")))
	}
}

func TestMergeOfTerms(t *testing.T) {
	log := logOf(0, 1, 1, 2)
	takeMerge(t, log, 3, logOf(1, impl.MaxTerm), append(slices.Clone(log), logOf(1, impl.MaxTerm)...))
	takeMerge(t, log, 3, logOf(1, 2, 2, impl.MaxTerm), append(slices.Clone(log), logOf(1, 2, 2, impl.MaxTerm)...))
	for _, term := range []int64{math.MinInt64, -1, 0, impl.MaxTerm + 1, 1 << 32, 1<<32 + 2, math.MaxInt64} {
		refuseMerge(t, nil, 0, logOf(1, term))
		for index := range int64(4) {
			refuseMerge(t, log, index, logOf(1, term))
			refuseMerge(t, log, index, logOf(1, 3, term))
			refuseMerge(t, log, index, logOf(1, term, 3))
			refuseMerge(t, log, index, append(logOf(1, termsOf(log[index:])...), logOf(1, term)...))
		}
	}
	refuseMerge(t, nil, 0, []impl.Entry{{}})
	refuseMerge(t, log, 0, []impl.Entry{{}})
}

func TestMergeUpToMaxLog(t *testing.T) {
	for _, count := range []int{0, 1, 100, impl.MaxLog - 1, impl.MaxLog} {
		log := logOf(0, alike(count, 2)...)
		room := impl.MaxLog - count
		behind := logOf(1, alike(room, 2)...)
		takeMerge(t, log, int64(count), behind, append(slices.Clone(log), behind...))
		refuseMerge(t, log, int64(count), logOf(1, alike(room+1, 2)...))
		refuseMerge(t, log, int64(count), logOf(1, alike(room+1, 3)...))
		refuseMerge(t, log, int64(count), logOf(1, alike(100000, 2)...))
		takeMerge(t, log, 0, logOf(1, alike(impl.MaxLog, 2)...), append(slices.Clone(log), logOf(1, alike(impl.MaxLog, 2)...)[count:]...))
		takeMerge(t, log, 0, logOf(1, alike(impl.MaxLog, 1)...), logOf(1, alike(impl.MaxLog, 1)...))
		takeMerge(t, log, 0, logOf(1, alike(impl.MaxLog, 3)...), logOf(1, alike(impl.MaxLog, 3)...))
		refuseMerge(t, log, 0, logOf(1, alike(impl.MaxLog+1, 2)...))
		refuseMerge(t, log, 0, logOf(1, alike(impl.MaxLog+1, 3)...))
		for _, index := range []int{0, 1, count / 2, count - 1, count} {
			if index >= 0 && index <= count {
				takeMerge(t, log, int64(index), logOf(1, alike(impl.MaxLog-index, 4)...), append(slices.Clone(log[:index]), logOf(1, alike(impl.MaxLog-index, 4)...)...))
				refuseMerge(t, log, int64(index), logOf(1, alike(impl.MaxLog-index+1, 4)...))
			}
		}
	}
	full := logOf(0, upTo(impl.MaxLog + 1)[1:]...)
	takeMerge(t, full, impl.MaxLog, nil, full)
	takeMerge(t, full, 0, full, full)
	takeMerge(t, full, impl.MaxLog-1, logOf(1, impl.MaxTerm), append(slices.Clone(full[:impl.MaxLog-1]), logOf(1, impl.MaxTerm)...))
	refuseMerge(t, full, impl.MaxLog, logOf(1, impl.MaxLog))
	refuseMerge(t, full, impl.MaxLog+1, nil)
}

func TestMergeOfWrongLogs(t *testing.T) {
	for name, log := range wrongLogs() {
		for _, index := range nearNumbers(log) {
			for _, entries := range [][]impl.Entry{nil, {entry(1, "none")}, logOf(1, 5, 6), {entry(0, "")}} {
				if got, is := impl.Merge(log, index, entries); is || len(got) != 0 {
					t.Fatalf("%s, from %d on %v: %v %v", name, index, entries, got, is)
				}
			}
		}
		// What is cut off, too, was no log's.
		refuseMerge(t, log, 0, logOf(1, 5, 6))
		refuseMerge(t, log, 0, log)
	}
}

// TestMergeOfWrongEntries: what is no log by itself is none behind a log either.
func TestMergeOfWrongEntries(t *testing.T) {
	for _, entries := range wrongLogs() {
		refuseMerge(t, nil, 0, entries)
		refuseMerge(t, logOf(0, 1), 1, entries)
		refuseMerge(t, logOf(0, 4, 4), 0, entries)
	}
}

// TestMergesInAnyOrder: parts of one log, merged in any order and more than once, never take anything from it.
func TestMergesInAnyOrder(t *testing.T) {
	n := numbersFrom(131)
	for range 60 {
		whole := someLog(&n, 1+n.below(30))
		log := slices.Clone(whole[:n.below(2)])
		for range 200 {
			from := n.below(int64(len(whole)))
			part := whole[from:min(int64(len(whole)), from+n.below(6))]
			got, is := checkMerge(t, log, from, part)
			if from > int64(len(log)) {
				continue
			}
			if want := max(len(log), int(from)+len(part)); !is || len(got) != want || !slices.Equal(got, whole[:want]) {
				t.Fatalf("%v, from %d on %v: %v %v", log, from, part, got, is)
			}
			log = got
		}
	}
}

// newerByWords is Newer by the words of the chapter, for a log and two numbers.
func newerByWords(log []impl.Entry, index, term int64) bool {
	last := int64(0)
	for _, one := range log {
		last = one.Term
	}
	if term == last {
		return index >= int64(len(log))
	}
	return term > last
}

func TestNewerToTheLetter(t *testing.T) {
	log := logOf(0, 1, 1, 3)
	for _, one := range []struct {
		index, term int64
		want        bool
	}{
		{3, 3, true}, {4, 3, true}, {2, 3, false}, {0, 3, false}, {-1, 3, false},
		{0, 4, true}, {1, 4, true}, {3, 4, true}, {9, 4, true}, {0, impl.MaxTerm, true},
		{3, 2, false}, {4, 2, false}, {200, 2, false}, {3, 1, false}, {3, 0, false}, {200, 0, false},
		{math.MaxInt64, 3, true}, {math.MinInt64, 3, false}, {math.MaxInt64, 2, false}, {math.MinInt64, 4, true}, {3, math.MaxInt64, true}, {3, math.MinInt64, false},
	} {
		if got := impl.Newer(log, one.index, one.term); got != one.want {
			t.Errorf("number %d, Term %d: %v", one.index, one.term, got)
		}
	}
	if !impl.Newer(nil, 0, 0) || !impl.Newer(nil, 1, 0) || impl.Newer(nil, -1, 0) || !impl.Newer(nil, 0, 1) || !impl.Newer(nil, -1, 1) || impl.Newer(nil, 0, -1) || impl.Newer(nil, 1, -1) {
		t.Error("a log of none")
	}
}

func TestNewerNearEachLog(t *testing.T) {
	n := numbersFrom(132)
	logs := [][]impl.Entry{nil, {}, logOf(0, alike(impl.MaxLog, impl.MaxTerm)...), logOf(0, alike(impl.MaxLog, 1)...)}
	for _, terms := range allTerms(4, 3) {
		logs = append(logs, logOf(0, terms...))
	}
	for count := range int64(30) {
		logs = append(logs, someLog(&n, count))
	}
	for _, log := range wrongLogs() {
		logs = append(logs, log)
	}
	for _, log := range logs {
		for _, index := range nearNumbers(log) {
			for _, term := range append(nearTerms(log[max(0, len(log)-1):]), impl.LastTerm(log)) {
				if got := impl.Newer(log, index, term); got != newerByWords(log, index, term) {
					t.Fatalf("%v, number %d, Term %d: %v", log, index, term, got)
				}
			}
		}
	}
}

// TestOneOfTwoLogsIsNewer: of any two, one is at least as new as the other, and both are only if their ends are alike.
func TestOneOfTwoLogsIsNewer(t *testing.T) {
	var logs [][]impl.Entry
	for _, terms := range allTerms(4, 3) {
		if log := logOf(0, terms...); impl.LogOk(log) {
			logs = append(logs, log)
		}
	}
	for _, a := range logs {
		for _, b := range logs {
			ab := impl.Newer(a, int64(len(b)), impl.LastTerm(b))
			ba := impl.Newer(b, int64(len(a)), impl.LastTerm(a))
			alike := len(a) == len(b) && impl.LastTerm(a) == impl.LastTerm(b)
			if !ab && !ba || (ab && ba) != alike {
				t.Fatalf("%v and %v: %v %v", a, b, ab, ba)
			}
		}
	}
}

func TestLogArgumentsStay(t *testing.T) {
	n := numbersFrom(133)
	lists := [][]impl.Entry{nil, logOf(0, 1), logOf(0, 1, 1, 3), logOf(1, 1, 2), logOf(1, 1, 1, 3, 3), logOf(1, 9, 8), logOf(1, 0), someLog(&n, 20), logOf(0, alike(impl.MaxLog, 3)...), logOf(0, alike(impl.MaxLog+1, 3)...)}
	for _, one := range lists {
		for _, other := range lists {
			for index := int64(-1); index <= min(int64(len(one))+1, 6); index++ {
				log, entries := watch(one, markedEntry), watch(other, markedEntry)
				impl.LogOk(log.list)
				impl.LastTerm(log.list)
				impl.Fits(log.list, index, 1)
				impl.Newer(log.list, index, 1)
				got, is := impl.Merge(log.list, index, entries.list)
				again, _ := impl.Merge(log.list, index, entries.list)
				log.check(t, "the log")
				entries.check(t, "the entries")
				kept := slices.Clone(got)
				overwrite(got, markedEntry)
				log.check(t, "the log, an answer written into")
				entries.check(t, "the entries, an answer written into")
				if !slices.Equal(again, kept) {
					t.Fatalf("writing into one answer changed another: %v, was %v", again, kept)
				}
				overwrite(log.whole, entry(-1, ""))
				overwrite(entries.whole, entry(-2, ""))
				if want, should := mergedByWords(one, index, other); is != should || !slices.Equal(again, want) {
					t.Fatalf("writing into the arguments changed an answer: %v %v, not %v %v", again, is, want, should)
				}
			}
		}
	}
}

// TestMergeOfOneListTwice: the log and the entries may be the same memory, or parts of it.
func TestMergeOfOneListTwice(t *testing.T) {
	log := watch(logOf(0, 1, 1, 2, 2, 5, 5), markedEntry)
	for from := range len(log.list) + 1 {
		for to := from; to <= len(log.list); to++ {
			for end := range len(log.list) + 1 {
				for index := range end + 1 {
					head, part := log.list[:end], log.list[from:to]
					got, is := checkMerge(t, head, int64(index), part)
					log.check(t, "one list")
					overwrite(got, markedEntry)
					log.check(t, "one list, an answer written into")
					if index == from && !is {
						t.Fatalf("%v, from %d on %v: refused", head, index, part)
					}
				}
			}
		}
	}
}

func TestRefusedMergesGiveNothing(t *testing.T) {
	for name, answer := range map[string]func() ([]impl.Entry, bool){
		"a wrong log":        func() ([]impl.Entry, bool) { return impl.Merge(logOf(0, 2, 1), 0, nil) },
		"below 0":            func() ([]impl.Entry, bool) { return impl.Merge(logOf(0, 1, 2), -1, nil) },
		"the least number":   func() ([]impl.Entry, bool) { return impl.Merge(logOf(0, 1, 2), math.MinInt64, logOf(1, 3)) },
		"beyond the end":     func() ([]impl.Entry, bool) { return impl.Merge(logOf(0, 1, 2), 3, nil) },
		"the greatest":       func() ([]impl.Entry, bool) { return impl.Merge(logOf(0, 1, 2), math.MaxInt64, logOf(1, 3)) },
		"Terms that fall":    func() ([]impl.Entry, bool) { return impl.Merge(logOf(0, 1, 2), 2, logOf(1, 1)) },
		"more than MaxLog":   func() ([]impl.Entry, bool) { return impl.Merge(nil, 0, logOf(1, alike(impl.MaxLog+1, 1)...)) },
		"a text that is no":  func() ([]impl.Entry, bool) { return impl.Merge(nil, 0, []impl.Entry{entry(1, "no")}) },
		"Term 0":             func() ([]impl.Entry, bool) { return impl.Merge(nil, 0, logOf(1, 0)) },
		"one past none":      func() ([]impl.Entry, bool) { return impl.Merge(nil, 1, logOf(1, 1)) },
		"nothing past none":  func() ([]impl.Entry, bool) { return impl.Merge(nil, 1, nil) },
		"nothing below none": func() ([]impl.Entry, bool) { return impl.Merge(nil, -1, nil) },
	} {
		if got, is := answer(); is || len(got) != 0 {
			t.Errorf("%s: %v %v", name, got, is)
		}
	}
}
