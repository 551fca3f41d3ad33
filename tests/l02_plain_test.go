package tests

import (
	"math"
	"slices"
	"testing"

	"loop.example/g00161/impl"
)

const markedPlace = int64(-77)

// plainGraphs are maps whose distances go over several arcs, beside all the maps of chapter 1.
func plainGraphs() map[string]impl.Graph {
	all := rightGraphs()
	all["a way over two that is shorter"] = graph(4, arc(0, 1, 5), arc(0, 2, 9), arc(1, 2, 3))
	all["a way over two that is as long"] = graph(3, arc(0, 1, 5), arc(0, 2, 8), arc(1, 2, 3))
	all["a way over two that is longer"] = graph(3, arc(0, 1, 5), arc(0, 2, 7), arc(1, 2, 3))
	all["a way backward by numbers"] = graph(5, arc(0, 4, 1), arc(1, 0, 1), arc(2, 1, 1), arc(3, 2, 1), arc(4, 3, 1))
	all["nearer again and again"] = graph(5, arc(0, 1, 100), arc(0, 2, 50), arc(0, 3, 20), arc(0, 4, 5), arc(2, 1, 20), arc(3, 1, 60), arc(3, 2, 20), arc(4, 1, 85), arc(4, 2, 40), arc(4, 3, 10))
	all["two parts"] = graph(6, arc(0, 1, 2), arc(1, 2, 2), arc(2, 0, 2), arc(3, 4, 2), arc(4, 5, 2), arc(5, 3, 2))
	all["one is only left"] = graph(3, arc(1, 0, 4), arc(1, 2, 4))
	for _, weight := range []int64{1, impl.MaxWeight} {
		all["a chain"+" "+showByHand(graph(weight))] = chain(impl.MaxPlaces, weight)
		all["a ring of most"+" "+showByHand(graph(weight))] = ring(impl.MaxPlaces, weight)
		all["MaxArcs"+" "+showByHand(graph(weight))] = allWeighed(ladder(), weight)
		all["MaxArcs of the first places"+" "+showByHand(graph(weight))] = allWeighed(fullGraph(impl.MaxPlaces, impl.MaxArcs), weight)
	}
	return all
}

func chain(places, weight int64) impl.Graph {
	g := graph(places)
	for place := range places - 1 {
		g.Arcs = append(g.Arcs, arc(place, place+1, weight))
	}
	return g
}

func ring(places, weight int64) impl.Graph {
	g := chain(places, weight)
	g.Arcs = append(g.Arcs, arc(places-1, 0, weight))
	return g
}

func allWeighed(g impl.Graph, weight int64) impl.Graph {
	g.Arcs = slices.Clone(g.Arcs)
	for i := range g.Arcs {
		g.Arcs[i].Weight = weight
	}
	return g
}

// ladder has MaxPlaces places and MaxArcs arcs, from each place some steps back and forth.
func ladder() impl.Graph {
	g := graph(impl.MaxPlaces)
	for from := range int64(impl.MaxPlaces) {
		for _, step := range []int64{-3, -1, 1, 2, 5} {
			to := from + step
			if to >= 0 && to < impl.MaxPlaces && len(g.Arcs) < impl.MaxArcs {
				g.Arcs = append(g.Arcs, arc(from, to, 1+from*7+to))
			}
		}
	}
	return g
}

// distancesByRounds goes over all the arcs until none makes anything shorter.
func distancesByRounds(g impl.Graph, from int64) []int64 {
	sums := make([]int64, g.Places)
	for i := range sums {
		sums[i] = impl.Far
	}
	sums[from] = 0
	for changed := true; changed; {
		changed = false
		for _, x := range g.Arcs {
			if sums[x.From] != impl.Far && sums[x.From]+x.Weight < sums[x.To] {
				sums[x.To] = sums[x.From] + x.Weight
				changed = true
			}
		}
	}
	return sums
}

func TestLadderIsTheGreatestMap(t *testing.T) {
	g := ladder()
	if g.Places != impl.MaxPlaces || len(g.Arcs) != impl.MaxArcs || !impl.GraphOk(g) {
		t.Fatalf("%d places, %d arcs", g.Places, len(g.Arcs))
	}
}

func TestDistancesToTheLetter(t *testing.T) {
	const far = impl.Far
	cases := []struct {
		g    impl.Graph
		from int64
		want []int64
	}{
		{graph(1), 0, []int64{0}},
		{graph(2), 1, []int64{far, 0}},
		{graph(2, arc(0, 1, 5)), 0, []int64{0, 5}},
		{graph(2, arc(0, 1, 5)), 1, []int64{far, 0}},
		{graph(4, arc(0, 1, 5), arc(0, 2, 9), arc(1, 2, 3)), 0, []int64{0, 5, 8, far}},
		{graph(3, arc(0, 1, 5), arc(0, 2, 7), arc(1, 2, 3)), 0, []int64{0, 5, 7}},
		{graph(3, arc(0, 1, 5), arc(1, 2, 7), arc(2, 0, 1)), 0, []int64{0, 5, 12}},
		{graph(3, arc(0, 1, 5), arc(1, 2, 7), arc(2, 0, 1)), 1, []int64{8, 0, 7}},
		{graph(3, arc(0, 1, 5), arc(1, 2, 7), arc(2, 0, 1)), 2, []int64{1, 6, 0}},
		{graph(5, arc(0, 4, 1), arc(1, 0, 1), arc(2, 1, 1), arc(3, 2, 1), arc(4, 3, 1)), 0, []int64{0, 4, 3, 2, 1}},
		{graph(3, arc(0, 1, impl.MaxWeight), arc(1, 2, impl.MaxWeight)), 0, []int64{0, 1000000, 2000000}},
	}
	for _, c := range cases {
		if got := impl.Distances(c.g, c.from); !slices.Equal(got, c.want) {
			t.Errorf("%v from %d: %v, not %v", c.g, c.from, got, c.want)
		}
	}
}

func TestDistancesFromEachPlace(t *testing.T) {
	for name, g := range plainGraphs() {
		for from := range g.Places {
			got := impl.Distances(g, from)
			if want := distancesByRounds(g, from); !slices.Equal(got, want) {
				t.Fatalf("%s from %d: %v, not %v", name, from, got, want)
			}
			if got[from] != 0 {
				t.Fatalf("%s: %d from %d to itself", name, got[from], from)
			}
			for _, x := range g.Arcs {
				if got[x.From] != impl.Far && got[x.From]+x.Weight < got[x.To] {
					t.Fatalf("%s from %d: %v is made shorter by %v", name, from, got, x)
				}
			}
		}
	}
}

// shortestOfAll tries each way that goes through no place twice.
func shortestOfAll(g impl.Graph, path []int64, to int64) int64 {
	last := path[len(path)-1]
	if last == to {
		return impl.Length(g, path)
	}
	least := int64(impl.Far)
	for _, x := range g.Arcs {
		if x.From == last && !slices.Contains(path, x.To) {
			least = min(least, shortestOfAll(g, append(slices.Clone(path), x.To), to))
		}
	}
	return least
}

func TestDistancesAreTheLeastLengths(t *testing.T) {
	n := numbersFrom(11)
	for range 60 {
		g := someGraph(&n, 1+n.below(6), n.below(25))
		for from := range g.Places {
			got := impl.Distances(g, from)
			for to := range g.Places {
				if want := shortestOfAll(g, []int64{from}, to); got[to] != want {
					t.Fatalf("%v from %d to %d: %d, not %d", g, from, to, got[to], want)
				}
			}
		}
	}
}

func TestDistancesOfManySmallWeights(t *testing.T) {
	n := numbersFrom(12)
	for range 400 {
		g := someGraph(&n, 1+n.below(impl.MaxPlaces), n.below(impl.MaxArcs+1))
		for i := range g.Arcs {
			g.Arcs[i].Weight = 1 + g.Arcs[i].Weight%9 // small ones, so that many sums are alike
		}
		from := n.below(g.Places)
		if got, want := impl.Distances(g, from), distancesByRounds(g, from); !slices.Equal(got, want) {
			t.Fatalf("%v from %d: %v, not %v", g, from, got, want)
		}
	}
}

func TestDistancesOfTheGreatestMaps(t *testing.T) {
	for _, weight := range []int64{1, impl.MaxWeight} {
		for from := range int64(impl.MaxPlaces) {
			chained := impl.Distances(chain(impl.MaxPlaces, weight), from)
			ringed := impl.Distances(ring(impl.MaxPlaces, weight), from)
			for to := range int64(impl.MaxPlaces) {
				steps := (to - from + impl.MaxPlaces) % impl.MaxPlaces
				if ringed[to] != steps*weight {
					t.Fatalf("a ring at Weight %d, from %d to %d: %d", weight, from, to, ringed[to])
				}
				if to >= from && chained[to] != steps*weight || to < from && chained[to] != impl.Far {
					t.Fatalf("a chain at Weight %d, from %d to %d: %d", weight, from, to, chained[to])
				}
			}
		}
	}
}

// noPlaces are numbers that are no place of a map of so many.
func noPlaces(places int64) []int64 {
	return []int64{-1, places, places + 1, -places, impl.MaxPlaces, impl.Far, 1 << 32, -(1 << 32), math.MinInt64, math.MaxInt64}
}

func TestDistancesRefuses(t *testing.T) {
	for name, g := range wrongGraphs() {
		for _, from := range []int64{0, 1, -1, 2, g.Places - 1, g.Places, math.MinInt64, math.MaxInt64} {
			if got := impl.Distances(g, from); len(got) != 0 {
				t.Errorf("%s from %d: %v", name, from, got)
			}
			if got := impl.Reached(g, from); len(got) != 0 {
				t.Errorf("%s: reached from %d: %v", name, from, got)
			}
		}
	}
	for name, g := range rightGraphs() {
		for _, from := range noPlaces(g.Places) {
			if got := impl.Distances(g, from); len(got) != 0 {
				t.Errorf("%s from %d: %v", name, from, got)
			}
			if got := impl.Reached(g, from); len(got) != 0 {
				t.Errorf("%s: reached from %d: %v", name, from, got)
			}
		}
	}
}

// reachedByWalk goes from place to place, whatever the weights.
func reachedByWalk(g impl.Graph, from int64) []int64 {
	list := []int64{from}
	for i := 0; i < len(list); i++ {
		for _, x := range g.Arcs {
			if x.From == list[i] && !slices.Contains(list, x.To) {
				list = append(list, x.To)
			}
		}
	}
	slices.Sort(list)
	return list
}

func TestReached(t *testing.T) {
	for name, g := range plainGraphs() {
		for from := range g.Places {
			if got, want := impl.Reached(g, from), reachedByWalk(g, from); !slices.Equal(got, want) {
				t.Fatalf("%s from %d: %v, not %v", name, from, got, want)
			}
		}
	}
	g := graph(4, arc(0, 1, 5), arc(0, 2, 9), arc(1, 2, 3))
	for from, want := range [][]int64{{0, 1, 2}, {1, 2}, {2}, {3}} {
		if got := impl.Reached(g, int64(from)); !slices.Equal(got, want) {
			t.Errorf("from %d: %v, not %v", from, got, want)
		}
	}
}

func TestLengthToTheLetter(t *testing.T) {
	g := graph(4, arc(0, 1, 5), arc(0, 2, 9), arc(1, 2, 3), arc(2, 0, 4))
	cases := []struct {
		path []int64
		want int64
	}{
		{nil, impl.Far},
		{[]int64{}, impl.Far},
		{[]int64{0}, 0},
		{[]int64{3}, 0},
		{[]int64{-1}, impl.Far},
		{[]int64{4}, impl.Far},
		{[]int64{0, 1}, 5},
		{[]int64{1, 0}, impl.Far},
		{[]int64{0, 2}, 9},
		{[]int64{0, 1, 2}, 8},
		{[]int64{0, 1, 2, 0}, 12},
		{[]int64{0, 1, 2, 0, 1, 2, 0, 2}, 33},
		{[]int64{0, 0}, impl.Far},
		{[]int64{0, 0, 1}, impl.Far},
		{[]int64{0, 1, 1, 2}, impl.Far},
		{[]int64{0, 1, 2, 2}, impl.Far},
		{[]int64{3, 3}, impl.Far},
		{[]int64{3, 0, 1}, impl.Far},
		{[]int64{0, 1, 3}, impl.Far},
		{[]int64{0, 1, 3, 0, 1}, impl.Far},
		{[]int64{0, 1, 0, 1}, impl.Far},
	}
	for _, c := range cases {
		if got := impl.Length(g, c.path); got != c.want {
			t.Errorf("along %v: %d, not %d", c.path, got, c.want)
		}
	}
}

// around goes round a ring.
func around(places int64, count int) []int64 {
	path := make([]int64, count)
	for i := range path {
		path[i] = int64(i) % places
	}
	return path
}

func TestLengthAtTheLimits(t *testing.T) {
	for _, weight := range []int64{1, impl.MaxWeight} {
		for _, places := range []int64{2, 3, impl.MaxPlaces} {
			g := ring(places, weight)
			for count := 1; count <= impl.MaxPath; count++ {
				if got := impl.Length(g, around(places, count)); got != int64(count-1)*weight {
					t.Fatalf("%d places at Weight %d: %d", count, weight, got)
				}
			}
			for _, count := range []int{0, impl.MaxPath + 1, impl.MaxPath + 2, 2 * impl.MaxPath, 100000} {
				if got := impl.Length(g, around(places, count)); got != impl.Far {
					t.Fatalf("%d places at Weight %d: %d", count, weight, got)
				}
			}
		}
	}
}

func TestLengthRefusesWhatIsNoPlace(t *testing.T) {
	g := ring(5, 3)
	for _, count := range []int{1, 2, 3, 7, impl.MaxPath} {
		for _, wrong := range noPlaces(5) {
			for _, at := range []int{0, count / 2, count - 1} {
				path := around(5, count)
				path[at] = wrong
				if got := impl.Length(g, path); got != impl.Far {
					t.Errorf("%d places, %d at %d: %d", count, wrong, at, got)
				}
			}
		}
	}
}

func TestLengthRefusesABreakAnywhere(t *testing.T) {
	g := ring(5, 3)
	for at := range impl.MaxPath {
		for step := range int64(5) {
			path := around(5, impl.MaxPath)
			path[at] = (path[at] + step) % 5
			if got := impl.Length(g, path); (got == impl.Far) != (step != 0) {
				t.Errorf("%d further at %d: %d", step, at, got)
			}
		}
	}
}

func TestLengthOfWrongMaps(t *testing.T) {
	for name, g := range wrongGraphs() {
		for _, path := range [][]int64{nil, {0}, {1}, {0, 1}, {1, 0}, {1, 1}, {0, 1, 2}} {
			if got := impl.Length(g, path); got != impl.Far {
				t.Errorf("%s along %v: %d", name, path, got)
			}
		}
	}
}

// lengthByWalk adds up what the list of arcs tells.
func lengthByWalk(g impl.Graph, path []int64) int64 {
	sum := int64(0)
	for i := 1; i < len(path); i++ {
		weight := weightByWalk(g, path[i-1], path[i])
		if weight == impl.Far {
			return impl.Far
		}
		sum += weight
	}
	return sum
}

func TestLengthOfMadeWays(t *testing.T) {
	n := numbersFrom(13)
	for name, g := range plainGraphs() {
		for range 20 {
			path := []int64{n.below(g.Places)}
			for range n.below(impl.MaxPath) {
				next := n.below(g.Places)
				if i := int(n.below(impl.MaxArcs)); i < len(g.Arcs) && g.Arcs[i].From == path[len(path)-1] {
					next = g.Arcs[i].To
				}
				if weightByWalk(g, path[len(path)-1], next) != impl.Far || n.below(200) == 0 {
					path = append(path, next)
				}
			}
			got, want := impl.Length(g, path), lengthByWalk(g, path)
			if got != want {
				t.Fatalf("%s along %v: %d, not %d", name, path, got, want)
			}
			if least := impl.Distances(g, path[0])[path[len(path)-1]]; got < least {
				t.Fatalf("%s along %v: %d is less than the distance %d", name, path, got, least)
			}
		}
	}
}

func TestPlainArgumentsStay(t *testing.T) {
	graphs := plainGraphs()
	for name, g := range wrongGraphs() {
		graphs["wrong: "+name] = g
	}
	for name, g := range graphs {
		arcs := watch(g.Arcs, markedArc)
		h := impl.Graph{Places: g.Places, Arcs: arcs.list}
		for _, from := range []int64{0, 1, -1, g.Places - 1, g.Places} {
			impl.Distances(h, from)
			impl.Reached(h, from)
		}
		for _, list := range [][]int64{nil, {0}, {0, 1}, {0, 1, 2}, {0, 0}, {-1}, {0, -1}, around(3, impl.MaxPath), around(3, impl.MaxPath+1)} {
			path := watch(list, markedPlace)
			impl.Length(h, path.list)
			path.check(t, name)
		}
		arcs.check(t, name)
	}
}

func TestPlainAnswersAreNew(t *testing.T) {
	for name, g := range plainGraphs() {
		g.Arcs = slices.Clone(g.Arcs)
		before := slices.Clone(g.Arcs)
		for _, f := range []func(impl.Graph, int64) []int64{impl.Distances, impl.Reached} {
			first, second := f(g, 0), f(g, 0)
			kept := slices.Clone(second)
			overwrite(first, markedPlace)
			if third := f(g, 0); !slices.Equal(second, kept) || !slices.Equal(third, kept) {
				t.Fatalf("%s: writing into one answer changed another: %v %v, were %v", name, second, third, kept)
			}
			if !slices.Equal(g.Arcs, before) {
				t.Fatalf("%s: an answer shares memory with the map", name)
			}
		}
	}
}
