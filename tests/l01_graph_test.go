package tests

import (
	"math"
	"regexp"
	"slices"
	"strconv"
	"strings"
	"testing"

	"loop.example/g00161/impl"
)

var markedArc = impl.Arc{From: -77, To: -78, Weight: -79}

func arc(from, to, weight int64) impl.Arc {
	return impl.Arc{From: from, To: to, Weight: weight}
}

func graph(places int64, arcs ...impl.Arc) impl.Graph {
	return impl.Graph{Places: places, Arcs: arcs}
}

func rightGraphs() map[string]impl.Graph {
	all := map[string]impl.Graph{
		"one place":                   graph(1),
		"one place, empty list":       {Places: 1, Arcs: []impl.Arc{}},
		"MaxPlaces, no arc":           graph(impl.MaxPlaces),
		"one arc":                     graph(2, arc(0, 1, 5)),
		"one arc back":                graph(2, arc(1, 0, 5)),
		"both ways":                   graph(2, arc(0, 1, 5), arc(1, 0, 6)),
		"least Weight":                graph(2, arc(0, 1, 1)),
		"greatest Weight":             graph(2, arc(0, 1, impl.MaxWeight)),
		"a ring":                      graph(3, arc(0, 1, 5), arc(1, 2, 7), arc(2, 0, 1)),
		"To falls where From is more": graph(4, arc(0, 3, 9), arc(1, 0, 9), arc(2, 3, 8), arc(3, 0, 8)),
		"first and last place":        graph(impl.MaxPlaces, arc(0, impl.MaxPlaces-1, 3), arc(impl.MaxPlaces-1, 0, 4)),
		"MaxArcs":                     fullGraph(11, impl.MaxArcs),
		"MaxArcs and MaxPlaces":       fullGraph(impl.MaxPlaces, impl.MaxArcs),
		"each arc of few places":      fullGraph(6, impl.MaxArcs),
	}
	n := numbersFrom(1)
	for i := range int64(60) {
		all["made "+strconv.FormatInt(i, 10)] = someGraph(&n, 1+i%impl.MaxPlaces, n.below(impl.MaxArcs+1))
	}
	return all
}

func wrongGraphs() map[string]impl.Graph {
	return map[string]impl.Graph{
		"zero":                      {},
		"no place, an arc":          graph(0, arc(0, 1, 5)),
		"places below 0":            graph(-1),
		"least places":              graph(math.MinInt64),
		"MaxPlaces and 1":           graph(impl.MaxPlaces + 1),
		"greatest places":           graph(math.MaxInt64),
		"MaxArcs and 1":             fullGraph(11, impl.MaxArcs+1),
		"MaxArcs and 1, MaxPlaces":  fullGraph(impl.MaxPlaces, impl.MaxArcs+1),
		"many arcs":                 fullGraph(impl.MaxPlaces, 10*impl.MaxArcs),
		"Weight 0":                  graph(2, arc(0, 1, 0)),
		"Weight below 0":            graph(2, arc(0, 1, -1)),
		"least Weight of all":       graph(2, arc(0, 1, math.MinInt64)),
		"MaxWeight and 1":           graph(2, arc(0, 1, impl.MaxWeight+1)),
		"Weight Far":                graph(2, arc(0, 1, impl.Far)),
		"greatest Weight of all":    graph(2, arc(0, 1, math.MaxInt64)),
		"the last Weight is wrong":  graph(3, arc(0, 1, 5), arc(1, 2, 7), arc(2, 0, 0)),
		"to itself":                 graph(2, arc(1, 1, 5)),
		"to itself, one place":      graph(1, arc(0, 0, 5)),
		"From below 0":              graph(2, arc(-1, 1, 5)),
		"To below 0":                graph(2, arc(1, -1, 5)),
		"From past the end":         graph(2, arc(2, 1, 5)),
		"To past the end":           graph(2, arc(1, 2, 5)),
		"From past MaxPlaces":       graph(impl.MaxPlaces, arc(impl.MaxPlaces, 1, 5)),
		"To past MaxPlaces":         graph(impl.MaxPlaces, arc(1, impl.MaxPlaces, 5)),
		"least From":                graph(2, arc(math.MinInt64, 1, 5)),
		"greatest To":               graph(2, arc(1, math.MaxInt64, 5)),
		"an arc twice":              graph(3, arc(0, 1, 5), arc(0, 1, 5)),
		"an arc twice, two Weights": graph(3, arc(0, 1, 5), arc(0, 1, 6)),
		"From falls":                graph(3, arc(1, 2, 5), arc(0, 1, 5)),
		"From falls, To rises":      graph(3, arc(1, 0, 5), arc(0, 2, 5)),
		"To falls":                  graph(3, arc(0, 2, 5), arc(0, 1, 5)),
		"the last falls":            graph(4, arc(0, 1, 5), arc(1, 2, 5), arc(3, 0, 5), arc(2, 3, 5)),
	}
}

func TestGraphOk(t *testing.T) {
	for name, g := range rightGraphs() {
		if !impl.GraphOk(g) {
			t.Errorf("%s: a right map is refused: %v", name, g)
		}
	}
	for name, g := range wrongGraphs() {
		if impl.GraphOk(g) {
			t.Errorf("%s: a wrong map is accepted: %v", name, g)
		}
	}
}

// weightByWalk is WeightOf by the list alone.
func weightByWalk(g impl.Graph, a, b int64) int64 {
	for _, x := range g.Arcs {
		if x.From == a && x.To == b {
			return x.Weight
		}
	}
	return impl.Far
}

func TestWeightOf(t *testing.T) {
	for name, g := range rightGraphs() {
		for a := int64(-1); a <= impl.MaxPlaces; a++ {
			for b := int64(-1); b <= impl.MaxPlaces; b++ {
				if got, want := impl.WeightOf(g, a, b), weightByWalk(g, a, b); got != want {
					t.Fatalf("%s: from %d to %d: %d, not %d", name, a, b, got, want)
				}
			}
		}
		for _, far := range []int64{math.MinInt64, math.MaxInt64, 1 << 32} {
			if impl.WeightOf(g, far, 0) != impl.Far || impl.WeightOf(g, 0, far) != impl.Far {
				t.Fatalf("%s: a Weight at %d", name, far)
			}
		}
	}
	for name, g := range wrongGraphs() {
		for _, x := range append(slices.Clone(g.Arcs), arc(0, 1, 1)) {
			if got := impl.WeightOf(g, x.From, x.To); got != impl.Far {
				t.Fatalf("%s: a wrong map has the Weight %d", name, got)
			}
		}
	}
}

func TestReweighTakesTheLastWeights(t *testing.T) {
	g := graph(3, arc(0, 1, 5), arc(1, 2, 7), arc(2, 0, 1))
	cases := []struct {
		arcs []impl.Arc
		want impl.Graph
	}{
		{nil, g},
		{[]impl.Arc{}, g},
		{[]impl.Arc{arc(1, 2, 8)}, graph(3, arc(0, 1, 5), arc(1, 2, 8), arc(2, 0, 1))},
		{[]impl.Arc{arc(1, 2, 7)}, g},
		{[]impl.Arc{arc(0, 1, 1)}, graph(3, arc(0, 1, 1), arc(1, 2, 7), arc(2, 0, 1))},
		{[]impl.Arc{arc(0, 1, impl.MaxWeight)}, graph(3, arc(0, 1, impl.MaxWeight), arc(1, 2, 7), arc(2, 0, 1))},
		{[]impl.Arc{arc(2, 0, 9), arc(0, 1, 3)}, graph(3, arc(0, 1, 3), arc(1, 2, 7), arc(2, 0, 9))},
		{[]impl.Arc{arc(1, 2, 9), arc(1, 2, 4)}, graph(3, arc(0, 1, 5), arc(1, 2, 4), arc(2, 0, 1))},
		{[]impl.Arc{arc(1, 2, 4), arc(1, 2, 9)}, graph(3, arc(0, 1, 5), arc(1, 2, 9), arc(2, 0, 1))},
		{[]impl.Arc{arc(1, 2, 9), arc(0, 1, 2), arc(1, 2, 7)}, graph(3, arc(0, 1, 2), arc(1, 2, 7), arc(2, 0, 1))},
	}
	for _, c := range cases {
		got, is := impl.Reweigh(g, c.arcs)
		if !is || !sameGraph(got, c.want) {
			t.Errorf("weighed by %v: %v %v, not %v", c.arcs, got, is, c.want)
		}
	}
}

func TestReweighOfMadeMaps(t *testing.T) {
	n := numbersFrom(2)
	for name, g := range rightGraphs() {
		if len(g.Arcs) == 0 {
			continue
		}
		var arcs []impl.Arc
		want := map[[2]int64]int64{}
		for _, x := range g.Arcs {
			want[[2]int64{x.From, x.To}] = x.Weight
		}
		for range 1 + n.below(3*impl.MaxArcs) { // more than MaxArcs of them are no fault
			x := g.Arcs[n.below(int64(len(g.Arcs)))]
			x.Weight = 1 + n.below(impl.MaxWeight)
			want[[2]int64{x.From, x.To}] = x.Weight
			arcs = append(arcs, x)
		}
		got, is := impl.Reweigh(g, arcs)
		if !is || got.Places != g.Places || len(got.Arcs) != len(g.Arcs) || !impl.GraphOk(got) {
			t.Fatalf("%s: weighed: %v %v", name, got, is)
		}
		for i, x := range got.Arcs {
			if x.From != g.Arcs[i].From || x.To != g.Arcs[i].To || x.Weight != want[[2]int64{x.From, x.To}] {
				t.Fatalf("%s: arc %d is %v", name, i, x)
			}
			if impl.WeightOf(got, x.From, x.To) != x.Weight {
				t.Fatalf("%s: WeightOf arc %d", name, i)
			}
		}
	}
}

func TestReweighRefuses(t *testing.T) {
	g := graph(3, arc(0, 1, 5), arc(1, 2, 7), arc(2, 0, 1))
	wrong := []impl.Arc{
		arc(1, 0, 5), arc(2, 1, 5), arc(0, 0, 5), arc(0, 2, 5), arc(0, 3, 5), arc(3, 0, 5), arc(-1, 0, 5), arc(0, -1, 5),
		arc(math.MinInt64, math.MaxInt64, 5), arc(math.MaxInt64, math.MinInt64, 5),
		arc(0, 1, 0), arc(0, 1, -1), arc(0, 1, impl.MaxWeight+1), arc(0, 1, impl.Far), arc(0, 1, math.MinInt64), arc(0, 1, math.MaxInt64),
	}
	for _, x := range wrong {
		// A later right one does not make a wrong one good, nor does an earlier one.
		for _, arcs := range [][]impl.Arc{{x}, {x, arc(0, 1, 5)}, {arc(0, 1, 5), x}, {arc(1, 2, 3), x, arc(0, 1, 4)}} {
			got, is := impl.Reweigh(g, arcs)
			if is || !isZeroGraph(got) {
				t.Errorf("weighed by %v: %v %v", arcs, got, is)
			}
		}
	}
	for name, g := range wrongGraphs() {
		for _, arcs := range [][]impl.Arc{nil, {}, {arc(0, 1, 5)}, g.Arcs} {
			got, is := impl.Reweigh(g, arcs)
			if is || !isZeroGraph(got) {
				t.Errorf("%s: a wrong map is weighed: %v %v", name, got, is)
			}
		}
	}
	if got, is := impl.Reweigh(graph(1), []impl.Arc{arc(0, 0, 1)}); is || !isZeroGraph(got) {
		t.Errorf("an arc of a map without arcs: %v %v", got, is)
	}
}

// showByHand is ShowGraph of a map that is right.
func showByHand(g impl.Graph) string {
	text := strconv.FormatInt(g.Places, 10)
	for _, x := range g.Arcs {
		for _, number := range []int64{x.From, x.To, x.Weight} {
			text += " " + strconv.FormatInt(number, 10)
		}
	}
	return text
}

func TestReadGraphOfShowGraph(t *testing.T) {
	for name, g := range rightGraphs() {
		text := impl.ShowGraph(g)
		if text != showByHand(g) {
			t.Fatalf("%s: shown as %q", name, text)
		}
		back, is := impl.ReadGraph(text)
		if !is || !sameGraph(back, g) {
			t.Fatalf("%s: %q is read as %v %v", name, text, back, is)
		}
	}
	for name, g := range wrongGraphs() {
		if text := impl.ShowGraph(g); text != "" {
			t.Errorf("%s: a wrong map is shown as %q", name, text)
		}
		if back, is := impl.ReadGraph(showByHand(g)); is || !isZeroGraph(back) {
			t.Errorf("%s: a wrong map is read: %v %v", name, back, is)
		}
	}
}

func TestShowGraphToTheLetter(t *testing.T) {
	cases := map[string]impl.Graph{
		"1":                     graph(1),
		"24":                    graph(24),
		"2 0 1 1":               graph(2, arc(0, 1, 1)),
		"2 1 0 1000000":         graph(2, arc(1, 0, 1000000)),
		"12 0 11 10 11 0 20":    graph(12, arc(0, 11, 10), arc(11, 0, 20)),
		"3 0 1 5 1 2 7 2 0 1":   graph(3, arc(0, 1, 5), arc(1, 2, 7), arc(2, 0, 1)),
		"3 0 1 5 0 2 100 1 0 3": graph(3, arc(0, 1, 5), arc(0, 2, 100), arc(1, 0, 3)),
	}
	for text, g := range cases {
		if got := impl.ShowGraph(g); got != text {
			t.Errorf("shown as %q, not %q", got, text)
		}
		if got, is := impl.ReadGraph(text); !is || !sameGraph(got, g) {
			t.Errorf("%q is read as %v %v", text, got, is)
		}
	}
}

func TestReadGraphRefuses(t *testing.T) {
	texts := []string{
		"", " ", "  ", "\x00", "\n", "\t", "x", "none", "-", "+", "-1", "+1", "-0", "0", "00", "25", "100",
		"01", "001", "1 ", " 1", "1  ", "1\n", "\n1", "1\t", "1.", "1.0", "1e0", "0x1", "1_0", "1,", "\xff", "1\x00", "１", "١",
		"2 0", "2 0 1", "2 0 1 5 0", "2 0 1 5 1 0", "2 0 1 5 1", "2 5",
		"2  0 1 5", "2 0  1 5", "2 0 1  5", " 2 0 1 5", "2 0 1 5 ", "2 0 1 5  ", "2\t0 1 5", "2 0\n1 5", "2 0 1 5\n",
		"02 0 1 5", "2 00 1 5", "2 0 01 5", "2 0 1 05", "2 0 1 00005",
		"+2 0 1 5", "2 +0 1 5", "2 0 +1 5", "2 0 1 +5", "-2 0 1 5", "2 -0 1 5", "2 0 -1 5", "2 0 1 -5", "2 -1 1 5", "2 1 -1 5",
		"2 0 1 0", "2 0 1 1000001", "2 0 1 999999999", "2 0 1 1000000000", "2 0 1 0000000005", "2 0 1 18446744073709551621",
		"4294967298 0 1 5", "18446744073709551618 0 1 5", "2 18446744073709551616 1 5", "2 0 4294967297 5", "2 0 1 4294967301",
		"2 0 1 " + strings.Repeat("9", 1000), strings.Repeat("0", 1000) + "2 0 1 5",
		"2 0 0 5", "2 0 2 5", "2 2 0 5", "1 0 0 1", "1 0 1 1", "25 0 1 5", "0 0 1 5",
		"2 0 1 5 0 1 5", "2 1 0 5 0 1 5", "3 0 2 5 0 1 5", "2 a 1 5", "2 0 b 5", "2 0 1 c", "2 0 1 5x", "x2 0 1 5", "2 0 1 5 x", "2 ０ 1 5",
		"2 0 1 5 0 2", "2 0 1 5;", "2,0,1,5", "[2 0 1 5]", "2 0 1 5\r\n",
		strings.Repeat("1 ", 100000), strings.Repeat(" ", 100000), strings.Repeat("1", 100000),
	}
	for _, text := range texts {
		if got, is := impl.ReadGraph(text); is || !isZeroGraph(got) {
			t.Errorf("%.60q is read as %v %v", text, got, is)
		}
	}
}

func TestReadGraphAtTheLimits(t *testing.T) {
	most := showByHand(fullGraph(impl.MaxPlaces, impl.MaxArcs))
	if got, is := impl.ReadGraph(most); !is || len(got.Arcs) != impl.MaxArcs {
		t.Errorf("MaxArcs arcs are refused: %v", is)
	}
	for _, more := range []string{" 23", " 23 0", " 23 0 1", " 23 0 1 23 1 1", " ", " 23 0 1 "} {
		if got, is := impl.ReadGraph(most + more); is || !isZeroGraph(got) {
			t.Errorf("MaxArcs arcs and %q are read: %v %v", more, got, is)
		}
	}
}

var oneNumber = regexp.MustCompile(`^(0|[1-9][0-9]{0,8})$`)

// readByHand reads a map's text by another way than the program does.
func readByHand(text string) (impl.Graph, bool) {
	var numbers []int64
	for word := range strings.SplitSeq(text, " ") {
		if !oneNumber.MatchString(word) {
			return impl.Graph{}, false
		}
		number, _ := strconv.ParseInt(word, 10, 64)
		numbers = append(numbers, number)
	}
	if len(numbers)%3 != 1 || len(numbers) > 1+3*impl.MaxArcs || numbers[0] < 1 || numbers[0] > impl.MaxPlaces {
		return impl.Graph{}, false
	}
	g := impl.Graph{Places: numbers[0]}
	last := int64(-1)
	for rest := numbers[1:]; len(rest) > 0; rest = rest[3:] {
		from, to, weight := rest[0], rest[1], rest[2]
		if from >= g.Places || to >= g.Places || from == to || weight < 1 || weight > impl.MaxWeight || from*impl.MaxPlaces+to <= last {
			return impl.Graph{}, false
		}
		last = from*impl.MaxPlaces + to
		g.Arcs = append(g.Arcs, arc(from, to, weight))
	}
	return g, true
}

func checkRead(t *testing.T, text string) {
	t.Helper()
	got, is := impl.ReadGraph(text)
	want, should := readByHand(text)
	if is != should || !sameGraph(got, want) {
		t.Fatalf("%q is read as %v %v, not %v %v", text, got, is, want, should)
	}
	if is && impl.ShowGraph(got) != text {
		t.Fatalf("%q is shown as %q", text, impl.ShowGraph(got))
	}
}

func TestReadGraphOfTextsNearAMap(t *testing.T) {
	put := []byte{'0', '1', '2', '3', '9', ' ', '-', '+', '\n', 'a', 0, 0x80, 0xff}
	for _, text := range []string{"1", "24", "2 0 1 5", "3 0 1 5 1 2 7 2 0 1", "12 0 10 1000000 10 11 999999 11 0 1"} {
		for i := 0; i <= len(text); i++ {
			for _, b := range put {
				checkRead(t, text[:i]+string([]byte{b})+text[i:])
				if i < len(text) {
					checkRead(t, text[:i]+string([]byte{b})+text[i+1:])
				}
			}
			checkRead(t, text[:i])
			checkRead(t, text[i:])
			for k := i; k <= len(text); k++ {
				checkRead(t, text[:i]+text[k:])
			}
		}
	}
}

func TestGraphArgumentsStay(t *testing.T) {
	n := numbersFrom(3)
	graphs := rightGraphs()
	for name, g := range wrongGraphs() {
		graphs["wrong: "+name] = g
	}
	for name, g := range graphs {
		map1 := watch(g.Arcs, markedArc)
		arcs := watch([]impl.Arc{arc(0, 1, 1+n.below(impl.MaxWeight)), arc(0, 1, 4), arc(1, 0, 2)}, markedArc)
		own := watch(g.Arcs, markedArc)
		h := impl.Graph{Places: g.Places, Arcs: map1.list}
		impl.GraphOk(h)
		impl.WeightOf(h, 0, 1)
		text := impl.ShowGraph(h)
		kept := strings.Clone(text)
		first, _ := impl.Reweigh(h, own.list)
		second, _ := impl.Reweigh(h, own.list)
		impl.Reweigh(h, arcs.list)
		impl.Reweigh(h, map1.list)
		keptArcs := slices.Clone(second.Arcs)
		overwrite(first.Arcs, arc(-1, -2, -3))
		map1.check(t, name)
		arcs.check(t, name)
		own.check(t, name)
		if !slices.Equal(second.Arcs, keptArcs) {
			t.Fatalf("%s: two answers share memory", name)
		}
		overwrite(map1.list, arc(-4, -5, -6))
		overwrite(own.list, arc(-7, -8, -9))
		if !slices.Equal(second.Arcs, keptArcs) || text != kept {
			t.Fatalf("%s: an answer shares memory with an argument", name)
		}
	}
}

func TestReadGraphAnswersAreNew(t *testing.T) {
	const text = "3 0 1 5 1 2 7 2 0 1"
	first, _ := impl.ReadGraph(text)
	second, _ := impl.ReadGraph(text)
	overwrite(first.Arcs, markedArc)
	third, is := impl.ReadGraph(text)
	if !is || impl.ShowGraph(second) != text || impl.ShowGraph(third) != text {
		t.Fatalf("writing into one answer changed another: %v %v", second, third)
	}
}
