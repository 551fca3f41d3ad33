package tests

import (
	"math"
	"slices"
	"testing"

	"loop.example/g00161/impl"
)

var markedEdge = impl.Edge{Low: -77, High: -78}

func edge(low, high int64) impl.Edge {
	return impl.Edge{Low: low, High: high}
}

func edgeList(pairs ...[2]int64) []impl.Edge {
	edges := []impl.Edge{}
	for _, pair := range pairs {
		edges = append(edges, edge(pair[0], pair[1]))
	}
	return edges
}

// allEdges has each edge that so many ranks can have.
func allEdges(places int64) []impl.Edge {
	return edgeList(pickedPairs(places, true, -1)...)
}

// chainEdges has an edge from each rank to the next.
func chainEdges(places int64) []impl.Edge {
	edges := []impl.Edge{}
	for rank := range places - 1 {
		edges = append(edges, edge(rank, rank+1))
	}
	return edges
}

func falling(count int64) []int64 {
	list := upTo(count)
	slices.Reverse(list)
	return list
}

// allOrders has each order of the numbers below count.
func allOrders(count int64) [][]int64 {
	orders := [][]int64{{}}
	for number := range count {
		var longer [][]int64
		for _, order := range orders {
			for at := range len(order) + 1 {
				longer = append(longer, slices.Insert(slices.Clone(order), at, number))
			}
		}
		orders = longer
	}
	return orders
}

// someOrders are the order that Order tells and others.
func someOrders(n *numbersFrom, g impl.Graph) map[string][]int64 {
	return map[string][]int64{
		"by Order": impl.Order(g),
		"rising":   upTo(g.Places),
		"falling":  falling(g.Places),
		"mixed":    shuffled(n, g.Places),
		"mixed 2":  shuffled(n, g.Places),
	}
}

// fillByWays asks of each place who its neighbours are then, by ways over places that are gone.
func fillByWays(g impl.Graph, order []int64) []impl.Edge {
	edges := []impl.Edge{}
	for low, place := range order {
		var highs []int64
		for _, other := range neighboursThen(g, order[:low], place) {
			highs = append(highs, int64(slices.Index(order, other)))
		}
		slices.Sort(highs)
		for _, high := range highs {
			edges = append(edges, edge(int64(low), high))
		}
	}
	return edges
}

// edgesRightByWalk tells whether edges are as the chapter tells, each two held against one another.
func edgesRightByWalk(edges []impl.Edge, places int64) bool {
	if places < 1 || places > impl.MaxPlaces {
		return false
	}
	for i, x := range edges {
		if x.Low < 0 || x.High < 0 || x.Low >= places || x.High >= places || x.Low >= x.High {
			return false
		}
		for _, y := range edges[:i] {
			if y.Low > x.Low || y.Low == x.Low && y.High >= x.High {
				return false
			}
		}
	}
	return true
}

func parentByWalk(edges []impl.Edge, rank int64) int64 {
	least := int64(-1)
	for _, x := range edges {
		if x.Low == rank && (least == -1 || x.High < least) {
			least = x.High
		}
	}
	return least
}

func parentsByWalk(edges []impl.Edge, places int64) []int64 {
	if !edgesRightByWalk(edges, places) {
		return nil
	}
	var parents []int64
	for rank := range places {
		parents = append(parents, parentByWalk(edges, rank))
	}
	return parents
}

func chordalByWalk(edges []impl.Edge, places int64) bool {
	if !edgesRightByWalk(edges, places) {
		return false
	}
	for _, x := range edges {
		for _, y := range edges {
			if x.Low == y.Low && x.High < y.High && !slices.Contains(edges, edge(x.High, y.High)) {
				return false
			}
		}
	}
	return true
}

func aboveByWalk(edges []impl.Edge, places, rank int64) []int64 {
	if !edgesRightByWalk(edges, places) || rank < 0 || rank >= places {
		return nil
	}
	parent := parentByWalk(edges, rank)
	if parent == -1 {
		return []int64{rank}
	}
	return append([]int64{rank}, aboveByWalk(edges, places, parent)...)
}

// checkEdges holds Parents, Chordal and Above of any list against what they must be.
func checkEdges(t *testing.T, edges []impl.Edge, places int64) {
	t.Helper()
	if got, want := impl.Parents(edges, places), parentsByWalk(edges, places); !slices.Equal(got, want) {
		t.Fatalf("%v of %d places have the parents %v, not %v", edges, places, got, want)
	}
	if got, want := impl.Chordal(edges, places), chordalByWalk(edges, places); got != want {
		t.Fatalf("%v of %d places are chordal: %v", edges, places, got)
	}
	ranks := append(noPlaces(places), upTo(min(max(places, 0), impl.MaxPlaces+1))...)
	for _, rank := range ranks {
		if got, want := impl.Above(edges, places, rank), aboveByWalk(edges, places, rank); !slices.Equal(got, want) {
			t.Fatalf("%v of %d places: above %d are %v, not %v", edges, places, rank, got, want)
		}
	}
}

// checkFill holds promise 4 for one map and one order.
func checkFill(t *testing.T, name string, g impl.Graph, order []int64) {
	t.Helper()
	edges := impl.Fill(g, order)
	if want := fillByWays(g, order); !slices.Equal(edges, want) {
		t.Fatalf("%s: %v by %v: the fill is %v, not %v", name, g, order, edges, want)
	}
	for _, x := range g.Arcs {
		a, b := int64(slices.Index(order, x.From)), int64(slices.Index(order, x.To))
		if !slices.Contains(edges, edge(min(a, b), max(a, b))) {
			t.Fatalf("%s: %v by %v: the arc %v has no edge in %v", name, g, order, x, edges)
		}
	}
	if !edgesRightByWalk(edges, g.Places) {
		t.Fatalf("%s: %v by %v: the edges %v are not right", name, g, order, edges)
	}
	if !chordalByWalk(edges, g.Places) || !impl.Chordal(edges, g.Places) {
		t.Fatalf("%s: %v by %v: two upward neighbours have no edge in %v", name, g, order, edges)
	}
}

func TestFillToTheLetter(t *testing.T) {
	square := [][2]int64{{0, 1}, {1, 2}, {2, 3}, {3, 0}}
	cases := []struct {
		name  string
		g     impl.Graph
		order []int64
		want  []impl.Edge
	}{
		{"one place", graph(1), []int64{0}, nil},
		{"no arcs", graph(3), []int64{2, 0, 1}, nil},
		{"no arcs, MaxPlaces", graph(impl.MaxPlaces), upTo(impl.MaxPlaces), nil},
		{"one arc", graph(2, arc(0, 1, 5)), []int64{0, 1}, edgeList([2]int64{0, 1})},
		{"one arc, falling", graph(2, arc(0, 1, 5)), []int64{1, 0}, edgeList([2]int64{0, 1})},
		{"one arc back", graph(2, arc(1, 0, 5)), []int64{0, 1}, edgeList([2]int64{0, 1})},
		{"both ways", graph(2, arc(0, 1, 5), arc(1, 0, 6)), []int64{0, 1}, edgeList([2]int64{0, 1})},
		{"one arc of three places", graph(3, arc(2, 0, 5)), []int64{1, 2, 0}, edgeList([2]int64{1, 2})},
		{"a chain, rising", chain(4, 7), []int64{0, 1, 2, 3}, chainEdges(4)},
		{"a chain, falling", chain(4, 7), []int64{3, 2, 1, 0}, chainEdges(4)},
		{"a chain, its middle first", chain(3, 7), []int64{1, 0, 2}, allEdges(3)},
		{"a chain, its ends first", chain(3, 7), []int64{0, 2, 1}, edgeList([2]int64{0, 2}, [2]int64{1, 2})},
		{"a ring, rising", roads(4, false, square...), []int64{0, 1, 2, 3}, edgeList([2]int64{0, 1}, [2]int64{0, 3}, [2]int64{1, 2}, [2]int64{1, 3}, [2]int64{2, 3})},
		{"a ring, falling", roads(4, false, square...), []int64{3, 2, 1, 0}, edgeList([2]int64{0, 1}, [2]int64{0, 3}, [2]int64{1, 2}, [2]int64{1, 3}, [2]int64{2, 3})},
		// The neighbours of 0 are 1 and 3, by their ranks 3 and 2: not as they rise by place.
		{"a ring, across", roads(4, true, square...), []int64{0, 2, 3, 1}, edgeList([2]int64{0, 2}, [2]int64{0, 3}, [2]int64{1, 2}, [2]int64{1, 3}, [2]int64{2, 3})},
		{"a star, its middle last", roads(4, false, star(4, 0, true)...), []int64{3, 1, 2, 0}, edgeList([2]int64{0, 3}, [2]int64{1, 3}, [2]int64{2, 3})},
		{"a star, its middle first", roads(4, false, star(4, 2, false)...), []int64{2, 0, 3, 1}, allEdges(4)},
		{"a star, its middle in the middle", roads(4, true, star(4, 0, true)...), []int64{1, 0, 3, 2}, edgeList([2]int64{0, 1}, [2]int64{1, 2}, [2]int64{1, 3}, [2]int64{2, 3})},
		{"whole", fullGraph(6, impl.MaxArcs), []int64{5, 0, 3, 1, 4, 2}, allEdges(6)},
		{"whole, arcs in one direction", roads(6, false, pickedPairs(6, true, -1)...), []int64{5, 0, 3, 1, 4, 2}, allEdges(6)},
		{"two parts", graph(4, arc(0, 2, 1), arc(1, 3, 1)), []int64{3, 2, 1, 0}, edgeList([2]int64{0, 2}, [2]int64{1, 3})},
		{"a great star, its middle first", roads(impl.MaxPlaces, true, star(impl.MaxPlaces, 0, true)...), upTo(impl.MaxPlaces), allEdges(impl.MaxPlaces)},
	}
	for _, c := range cases {
		if got := impl.Fill(c.g, c.order); !slices.Equal(got, c.want) {
			t.Errorf("%s: %v, not %v", c.name, got, c.want)
		}
	}
}

func TestFillByManyOrders(t *testing.T) {
	n := numbersFrom(31)
	for name, g := range orderGraphs() {
		for by, order := range someOrders(&n, g) {
			checkFill(t, name+", "+by, g, order)
		}
	}
}

func TestFillOfAllSmallMaps(t *testing.T) {
	for places := int64(1); places <= 4; places++ {
		orders := allOrders(places)
		for bits := range 1 << (places * (places - 1)) {
			g := roads(places, false, pickedPairs(places, false, bits)...)
			for _, order := range orders {
				checkFill(t, "each map", g, order)
			}
		}
	}
	orders := allOrders(5)
	for bits := range 1 << 10 {
		g := roads(5, false, pickedPairs(5, true, bits)...)
		for _, order := range orders {
			checkFill(t, "each map in one direction", g, order)
		}
	}
}

func TestFillOfMadeMaps(t *testing.T) {
	n := numbersFrom(32)
	for range 150 {
		g := someGraph(&n, 1+n.below(impl.MaxPlaces), n.below(impl.MaxArcs+1))
		for by, order := range someOrders(&n, g) {
			checkFill(t, "made, "+by, g, order)
		}
	}
	for range 30 {
		g := someGraph(&n, impl.MaxPlaces, impl.MaxArcs)
		for by, order := range someOrders(&n, g) {
			checkFill(t, "made, MaxPlaces, "+by, g, order)
		}
	}
}

func TestFillHangsOnNeighboursAlone(t *testing.T) {
	n := numbersFrom(33)
	for name, g := range orderGraphs() {
		order := shuffled(&n, g.Places)
		edges := impl.Fill(g, order)
		for _, weight := range []int64{1, impl.MaxWeight} {
			if got := impl.Fill(allWeighed(g, weight), order); !slices.Equal(got, edges) {
				t.Fatalf("%s: at Weight %d the fill is %v, not %v", name, weight, got, edges)
			}
		}
		if got := impl.Fill(roads(g.Places, false, pairsOf(g, true)...), order); !slices.Equal(got, edges) {
			t.Fatalf("%s: turned round the fill is %v, not %v", name, got, edges)
		}
	}
}

func TestFillRefusesWrongMaps(t *testing.T) {
	for name, g := range wrongGraphs() {
		lists := [][]int64{nil, {}, {0}, {0, 1}, {0, 1, 2}, upTo(impl.MaxPlaces), upTo(impl.MaxPlaces + 1)}
		if g.Places >= 0 && g.Places <= impl.MaxPlaces+1 {
			lists = append(lists, upTo(g.Places), falling(g.Places))
		}
		for _, list := range lists {
			if got := impl.Fill(g, list); len(got) != 0 {
				t.Errorf("%s: a wrong map by %v has the fill %v", name, list, got)
			}
		}
	}
}

func TestFillRefusesWrongLists(t *testing.T) {
	n := numbersFrom(34)
	for name, g := range orderGraphs() {
		right := shuffled(&n, g.Places)
		lists := [][]int64{nil, {}, upTo(g.Places - 1), upTo(g.Places + 1), append(slices.Clone(right), right...), upTo(100000)}
		for _, at := range []int64{0, g.Places / 2, g.Places - 1} {
			lists = append(lists, slices.Delete(slices.Clone(right), int(at), int(at)+1))
			wrong := noPlaces(g.Places)
			if g.Places > 1 {
				wrong = append(wrong, right[(at+1)%g.Places])
			}
			for _, place := range wrong {
				list := slices.Clone(right)
				list[at] = place
				lists = append(lists, list, slices.Insert(slices.Clone(right), int(at), place), append(slices.Clone(right), place))
			}
		}
		for _, list := range lists {
			if got := impl.Fill(g, list); len(got) != 0 && !slices.Equal(slices.Sorted(slices.Values(list)), upTo(g.Places)) {
				t.Fatalf("%s: %v by %v, which is no order, has the fill %v", name, g, list, got)
			}
		}
	}
}

func TestEdgesToTheLetter(t *testing.T) {
	ringEdges := edgeList([2]int64{0, 1}, [2]int64{0, 3}, [2]int64{1, 2}, [2]int64{1, 3}, [2]int64{2, 3})
	cases := []struct {
		name    string
		edges   []impl.Edge
		places  int64
		parents []int64
		chordal bool
		rank    int64
		above   []int64
	}{
		{"one place", nil, 1, []int64{-1}, true, 0, []int64{0}},
		{"one place, an empty list", []impl.Edge{}, 1, []int64{-1}, true, 0, []int64{0}},
		{"no edges, -1", nil, 3, []int64{-1, -1, -1}, true, -1, nil},
		{"no edges, places", nil, 3, []int64{-1, -1, -1}, true, 3, nil},
		{"no edges, the last", nil, 3, []int64{-1, -1, -1}, true, 2, []int64{2}},
		{"no places", nil, 0, nil, false, 0, nil},
		{"places below 0", nil, -1, nil, false, 0, nil},
		{"one edge", edgeList([2]int64{0, 1}), 2, []int64{1, -1}, true, 0, []int64{0, 1}},
		{"one edge to no rank", edgeList([2]int64{0, 1}), 1, nil, false, 0, nil},
		{"one edge over one", edgeList([2]int64{0, 2}), 3, []int64{2, -1, -1}, true, 0, []int64{0, 2}},
		{"a ring filled", ringEdges, 4, []int64{1, 2, 3, -1}, true, 0, []int64{0, 1, 2, 3}},
		{"a ring filled, the last", ringEdges, 4, []int64{1, 2, 3, -1}, true, 3, []int64{3}},
		{"a ring filled, a rank more", ringEdges, 5, []int64{1, 2, 3, -1, -1}, true, 4, []int64{4}},
		{"a ring not filled", edgeList([2]int64{0, 1}, [2]int64{0, 3}, [2]int64{1, 2}, [2]int64{2, 3}), 4, []int64{1, 2, 3, -1}, false, 1, []int64{1, 2, 3}},
		{"two parts", edgeList([2]int64{0, 2}, [2]int64{1, 3}), 4, []int64{2, 3, -1, -1}, true, 1, []int64{1, 3}},
		{"one Low, its Highs apart", edgeList([2]int64{0, 1}, [2]int64{0, 2}), 3, []int64{1, -1, -1}, false, 0, []int64{0, 1}},
		{"one High", edgeList([2]int64{0, 2}, [2]int64{1, 2}), 3, []int64{2, 2, -1}, true, 0, []int64{0, 2}},
		{"falls", edgeList([2]int64{1, 2}, [2]int64{0, 2}), 3, nil, false, 0, nil},
		{"twice", edgeList([2]int64{0, 1}, [2]int64{0, 1}), 3, nil, false, 0, nil},
		{"High falls", edgeList([2]int64{0, 2}, [2]int64{0, 1}, [2]int64{1, 2}), 3, nil, false, 0, nil},
		{"Low is High", edgeList([2]int64{1, 1}), 3, nil, false, 0, nil},
		{"Low above High", edgeList([2]int64{1, 0}), 3, nil, false, 0, nil},
		{"Low below 0", edgeList([2]int64{-1, 0}), 3, nil, false, 0, nil},
	}
	for _, c := range cases {
		if got := impl.Parents(c.edges, c.places); !slices.Equal(got, c.parents) {
			t.Errorf("%s: the parents are %v, not %v", c.name, got, c.parents)
		}
		if got := impl.Chordal(c.edges, c.places); got != c.chordal {
			t.Errorf("%s: chordal: %v", c.name, got)
		}
		if got := impl.Above(c.edges, c.places, c.rank); !slices.Equal(got, c.above) {
			t.Errorf("%s: above %d are %v, not %v", c.name, c.rank, got, c.above)
		}
		checkEdges(t, c.edges, c.places)
	}
}

func TestEdgesOfAllSmallGraphs(t *testing.T) {
	for places := int64(1); places <= 5; places++ {
		for bits := range 1 << (places * (places - 1) / 2) {
			edges := edgeList(pickedPairs(places, true, bits)...)
			for _, count := range []int64{places - 1, places, places + 1} {
				checkEdges(t, edges, count)
			}
		}
	}
}

func TestEdgesOfAllSmallLists(t *testing.T) {
	lists := [][]impl.Edge{{}}
	for length := 0; length <= 3; length++ {
		var longer [][]impl.Edge
		for _, list := range lists {
			for places := int64(-1); places <= 4; places++ {
				checkEdges(t, list, places)
			}
			for low := int64(-1); low <= 3; low++ {
				for high := int64(-1); high <= 3; high++ {
					longer = append(longer, append(slices.Clone(list), edge(low, high)))
				}
			}
		}
		lists = longer
	}
}

func TestEdgesAtTheLimits(t *testing.T) {
	last := int64(impl.MaxPlaces - 1)
	lists := [][]impl.Edge{
		nil, {}, {edge(0, 1)}, {edge(0, last)}, {edge(last-1, last)}, {edge(0, last+1)}, {edge(last, last+1)}, {edge(last, last)}, {edge(0, 1), edge(last, last+1)},
		allEdges(impl.MaxPlaces), allEdges(impl.MaxPlaces + 1), chainEdges(impl.MaxPlaces), chainEdges(impl.MaxPlaces + 1), allEdges(200),
	}
	counts := []int64{math.MinInt64, -(1 << 32), -1, 0, 1, 2, last, impl.MaxPlaces, impl.MaxPlaces + 1, 1<<32 + impl.MaxPlaces, math.MaxInt64}
	for _, list := range lists {
		for _, places := range counts {
			if len(list) < 1000 {
				checkEdges(t, list, places)
			} else if len(impl.Parents(list, places)) != 0 || impl.Chordal(list, places) || len(impl.Above(list, places, 0)) != 0 {
				t.Fatalf("%d edges of %d places are accepted", len(list), places)
			}
		}
	}
	if got := impl.Parents(nil, impl.MaxPlaces); len(got) != impl.MaxPlaces {
		t.Fatalf("MaxPlaces ranks have the parents %v", got)
	}
	if got := impl.Above(chainEdges(impl.MaxPlaces), impl.MaxPlaces, 0); !slices.Equal(got, upTo(impl.MaxPlaces)) {
		t.Fatalf("above 0 of a chain of MaxPlaces are %v", got)
	}
	if !impl.Chordal(allEdges(impl.MaxPlaces), impl.MaxPlaces) || impl.Chordal(nil, impl.MaxPlaces+1) {
		t.Fatal("Chordal at MaxPlaces and past it")
	}
}

// wrongEdges are edges that no list of so many places may have.
func wrongEdges(places int64) []impl.Edge {
	wrong := []impl.Edge{edge(0, 0), edge(1, 0), edge(places-1, places-1), edge(places-1, 0), edge(math.MinInt64, math.MaxInt64), edge(math.MaxInt64, math.MinInt64)}
	for _, rank := range noPlaces(places) {
		wrong = append(wrong, edge(rank, rank), edge(rank, 0), edge(rank, places-1), edge(0, rank), edge(places-1, rank))
	}
	return wrong
}

func TestEdgesWithOneFault(t *testing.T) {
	n := numbersFrom(35)
	for _, places := range []int64{2, 3, 6, impl.MaxPlaces} {
		for _, right := range [][]impl.Edge{allEdges(places), chainEdges(places), impl.Fill(ring(places, 5), upTo(places)), impl.Fill(someGraph(&n, places, impl.MaxArcs), shuffled(&n, places))} {
			checkEdges(t, right, places)
			if len(right) == 0 || !edgesRightByWalk(right, places) {
				t.Fatalf("%v of %d places should be right", right, places)
			}
			for _, at := range []int{0, len(right) / 2, len(right) - 1} {
				for _, x := range wrongEdges(places) {
					list := slices.Clone(right)
					list[at] = x
					refuseEdges(t, list, places)
					refuseEdges(t, slices.Insert(slices.Clone(right), at, x), places)
				}
				refuseEdges(t, slices.Insert(slices.Clone(right), at, right[at]), places)
				refuseEdges(t, append(slices.Clone(right), right[at]), places)
				if at > 0 {
					list := slices.Clone(right)
					list[at], list[at-1] = list[at-1], list[at]
					refuseEdges(t, list, places)
				}
			}
			for _, x := range wrongEdges(places) {
				refuseEdges(t, append(slices.Clone(right), x), places)
			}
		}
	}
}

// refuseEdges asks that a list that is not as told gets the fixed answers, whatever the rank.
func refuseEdges(t *testing.T, edges []impl.Edge, places int64) {
	t.Helper()
	if got := impl.Parents(edges, places); len(got) != 0 {
		t.Fatalf("%v of %d places are not as told, but have the parents %v", edges, places, got)
	}
	if impl.Chordal(edges, places) {
		t.Fatalf("%v of %d places are not as told, but chordal", edges, places)
	}
	for _, rank := range []int64{-1, 0, places / 2, places - 1, places} {
		if got := impl.Above(edges, places, rank); len(got) != 0 {
			t.Fatalf("%v of %d places are not as told, but above %d are %v", edges, places, rank, got)
		}
	}
}

func TestChordalLacksOneEdge(t *testing.T) {
	n := numbersFrom(36)
	for places := int64(1); places <= impl.MaxPlaces; places++ {
		whole := allEdges(places)
		for i, x := range whole {
			// Only the first rank's edges join no two Highs of a lower rank.
			if got := impl.Chordal(slices.Delete(slices.Clone(whole), i, i+1), places); got != (x.Low == 0) {
				t.Fatalf("%d places, without the edge %v: chordal: %v", places, x, got)
			}
		}
		edges := impl.Fill(someGraph(&n, places, 2*places), shuffled(&n, places))
		for i := range edges {
			without := slices.Delete(slices.Clone(edges), i, i+1)
			if got, want := impl.Chordal(without, places), chordalByWalk(without, places); got != want {
				t.Fatalf("%d places, %v: chordal: %v", places, without, got)
			}
		}
	}
}

func TestEdgesOfMadeLists(t *testing.T) {
	n := numbersFrom(37)
	for range 300 {
		places := 1 + n.below(impl.MaxPlaces)
		edges := []impl.Edge{}
		some := 1 + n.below(6)
		for _, x := range allEdges(places) {
			if n.below(6) < some {
				edges = append(edges, x)
			}
		}
		checkEdges(t, edges, places)
	}
}

func TestAboveGoesUp(t *testing.T) {
	n := numbersFrom(38)
	for name, g := range orderGraphs() {
		for by, order := range someOrders(&n, g) {
			edges := impl.Fill(g, order)
			checkEdges(t, edges, g.Places)
			// Of a fill, all upward neighbours of a rank lie on its way up.
			for _, x := range edges {
				if above := impl.Above(edges, g.Places, x.Low); above[0] != x.Low || !slices.Contains(above, x.High) {
					t.Fatalf("%s, %s: above %d are %v, without %d", name, by, x.Low, above, x.High)
				}
			}
		}
	}
}

func TestFillArgumentsStay(t *testing.T) {
	n := numbersFrom(39)
	graphs := orderGraphs()
	for name, g := range wrongGraphs() {
		graphs["wrong: "+name] = g
	}
	for name, g := range graphs {
		arcs := watch(g.Arcs, markedArc)
		h := impl.Graph{Places: g.Places, Arcs: arcs.list}
		count := max(1, min(g.Places, impl.MaxPlaces))
		for _, list := range [][]int64{nil, {0}, {0, 0}, {-1}, upTo(impl.MaxPlaces + 1), upTo(count), falling(count), shuffled(&n, count), append(upTo(count), 0)} {
			order := watch(list, markedPlace)
			impl.Fill(h, order.list)
			order.check(t, name)
		}
		arcs.check(t, name)
	}
}

func TestEdgesArgumentsStay(t *testing.T) {
	n := numbersFrom(40)
	lists := [][]impl.Edge{nil, {edge(1, 2), edge(0, 1)}, {edge(0, 1), edge(0, 1)}, {edge(2, 1)}, {edge(-1, 5)}, allEdges(impl.MaxPlaces + 1)}
	for places := int64(1); places <= impl.MaxPlaces; places++ {
		backward := allEdges(places)
		slices.Reverse(backward)
		lists = append(lists, allEdges(places), chainEdges(places), backward, impl.Fill(someGraph(&n, places, 50), shuffled(&n, places)))
	}
	for _, list := range lists {
		for _, places := range []int64{0, 1, 2, 3, 12, impl.MaxPlaces, impl.MaxPlaces + 1} {
			edges := watch(list, markedEdge)
			impl.Parents(edges.list, places)
			impl.Chordal(edges.list, places)
			for _, rank := range []int64{-1, 0, 1, places - 1, places} {
				impl.Above(edges.list, places, rank)
			}
			edges.check(t, "edges")
		}
	}
}

func TestFillAnswersAreNew(t *testing.T) {
	n := numbersFrom(41)
	for name, g := range orderGraphs() {
		arcs := watch(g.Arcs, markedArc)
		h := impl.Graph{Places: g.Places, Arcs: arcs.list}
		order := watch(shuffled(&n, g.Places), markedPlace)
		first, second := impl.Fill(h, order.list), impl.Fill(h, order.list)
		kept := slices.Clone(second)
		overwrite(first, markedEdge)
		arcs.check(t, name)
		order.check(t, name)
		if third := impl.Fill(h, order.list); !slices.Equal(second, kept) || !slices.Equal(third, kept) {
			t.Fatalf("%s: writing into one answer changed another: %v %v, were %v", name, second, third, kept)
		}
		overwrite(arcs.whole, markedArc)
		overwrite(order.whole, markedPlace)
		if !slices.Equal(second, kept) {
			t.Fatalf("%s: an answer shares memory with an argument", name)
		}
	}
}

func TestEdgesAnswersAreNew(t *testing.T) {
	n := numbersFrom(42)
	for places := int64(1); places <= impl.MaxPlaces; places++ {
		list := impl.Fill(someGraph(&n, places, 3*places), shuffled(&n, places))
		answers := map[string]func(edges []impl.Edge) []int64{
			"Parents":            func(edges []impl.Edge) []int64 { return impl.Parents(edges, places) },
			"Above the first":    func(edges []impl.Edge) []int64 { return impl.Above(edges, places, 0) },
			"Above the last":     func(edges []impl.Edge) []int64 { return impl.Above(edges, places, places-1) },
			"Above one past all": func(edges []impl.Edge) []int64 { return impl.Above(edges, places, places) },
		}
		for name, answer := range answers {
			edges := watch(list, markedEdge)
			first, second := answer(edges.list), answer(edges.list)
			kept := slices.Clone(second)
			overwrite(first, markedPlace)
			edges.check(t, name)
			if third := answer(edges.list); !slices.Equal(second, kept) || !slices.Equal(third, kept) {
				t.Fatalf("%s: writing into one answer changed another: %v %v, were %v", name, second, third, kept)
			}
		}
	}
}
