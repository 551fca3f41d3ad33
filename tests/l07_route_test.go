package tests

import (
	"math"
	"slices"
	"testing"

	"loop.example/g00161/impl"
)

// placesOf are the places of some ranks.
func placesOf(h impl.Hier, ranks []int64) []int64 {
	places := []int64{}
	for _, rank := range ranks {
		places = append(places, h.Order[rank])
	}
	return places
}

// alongEdge is Unpack by the words of the chapter, an edge within an edge; in ranks.
func alongEdge(g impl.Graph, h impl.Hier, m impl.Metric, low, high int64, up bool) []int64 {
	weight := weightsUp(m, !up)[slices.Index(h.Edges, edge(low, high))]
	from, to := low, high
	if !up {
		from, to = high, low
	}
	if weightByWalk(g, h.Order[from], h.Order[to]) == weight {
		return []int64{from, to}
	}
	for w := range low {
		first, second := slices.Index(h.Edges, edge(w, from)), slices.Index(h.Edges, edge(w, to))
		if first >= 0 && second >= 0 && m.Down[first]+m.Up[second] == weight {
			return append(alongEdge(g, h, m, w, from, false), alongEdge(g, h, m, w, to, true)[1:]...)
		}
	}
	panic("an edge that stands for no way")
}

// upToMeeting has the ranks of which a climb with these sums goes the edges, the Meeting last.
func upToMeeting(h impl.Hier, weights, sums []int64, from, meeting int64) []int64 {
	ranks := []int64{meeting}
	for ranks[0] != from {
		for low := range ranks[0] {
			i := slices.Index(h.Edges, edge(low, ranks[0]))
			if i >= 0 && sums[low] < impl.Far && weights[i] == sums[ranks[0]]-sums[low] {
				ranks = slices.Insert(ranks, 0, low)
				break
			}
		}
	}
	return ranks
}

// routeByWords is Route by the words of the chapter, with what the two climb; in ranks.
func routeByWords(g impl.Graph, h impl.Hier, m impl.Metric, from, to int64, there, back []int64) []int64 {
	meeting, _ := meetingByWalk(there, back)
	if meeting == -1 {
		return nil
	}
	route := []int64{from}
	up, down := upToMeeting(h, m.Up, there, from, meeting), upToMeeting(h, m.Down, back, to, meeting)
	for i := 1; i < len(up); i++ {
		route = append(route, alongEdge(g, h, m, up[i-1], up[i], true)[1:]...)
	}
	for i := len(down) - 1; i > 0; i-- {
		route = append(route, alongEdge(g, h, m, down[i-1], down[i], false)[1:]...)
	}
	return route
}

// checkWay asks that a way leads from a to b along arcs of the map, no place twice, and is as long as told.
func checkWay(t *testing.T, name string, g impl.Graph, way []int64, a, b, length int64) {
	t.Helper()
	if len(way) == 0 || way[0] != a || way[len(way)-1] != b {
		t.Fatalf("%s: %v from %d to %d: the way %v", name, g, a, b, way)
	}
	sum := int64(0)
	for i, place := range way {
		if slices.Contains(way[:i], place) {
			t.Fatalf("%s: %v from %d to %d: the way %v comes to %d twice", name, g, a, b, way, place)
		}
		if i > 0 {
			weight := weightByWalk(g, way[i-1], place)
			if weight == impl.Far {
				t.Fatalf("%s: %v from %d to %d: the way %v has a step that is no arc", name, g, a, b, way)
			}
			sum += weight
		}
	}
	if sum != length || impl.Length(g, way) != length {
		t.Fatalf("%s: %v from %d to %d: the way %v has the length %d (%d), not %d", name, g, a, b, way, sum, impl.Length(g, way), length)
	}
}

// checkRoutes holds promise 7 for one map and one hierarchy, and which of several ways is told.
func checkRoutes(t *testing.T, name string, g impl.Graph, h impl.Hier) {
	t.Helper()
	m := impl.Customize(g, h)
	there, back := climbs(h, m, false), climbs(h, m, true)
	for a := range g.Places {
		plain := impl.Distances(g, a)
		if rounds := distancesByRounds(g, a); !slices.Equal(plain, rounds) {
			t.Fatalf("%s: %v from %d: %v, not %v", name, g, a, plain, rounds)
		}
		for b := range g.Places {
			way, length := impl.Route(g, h, m, a, b)
			if length != plain[b] {
				t.Fatalf("%s: %v by %v from %d to %d: %d, not %d", name, g, h, a, b, length, plain[b])
			}
			from, to := int64(slices.Index(h.Order, a)), int64(slices.Index(h.Order, b))
			if want := placesOf(h, routeByWords(g, h, m, from, to, there[from], back[to])); !slices.Equal(way, want) {
				t.Fatalf("%s: %v by %v from %d to %d: %v, not %v", name, g, h, a, b, way, want)
			}
			if length < impl.Far {
				checkWay(t, name, g, way, a, b, length)
			}
		}
	}
}

// checkEdgeWays holds Unpack of each edge, up and not, against its weight and the words of the chapter.
func checkEdgeWays(t *testing.T, name string, g impl.Graph, h impl.Hier) {
	t.Helper()
	m := impl.Customize(g, h)
	for i, x := range h.Edges {
		for _, up := range []bool{true, false} {
			way := impl.Unpack(g, h, m, x.Low, x.High, up)
			weight := weightsUp(m, !up)[i]
			if weight == impl.Far {
				if len(way) != 0 {
					t.Fatalf("%s: %v by %v: edge %v (up: %v) leads nowhere, and stands for %v", name, g, h, x, up, way)
				}
				continue
			}
			a, b := h.Order[x.Low], h.Order[x.High]
			if !up {
				a, b = b, a
			}
			checkWay(t, name, g, way, a, b, weight)
			for _, place := range way[1 : len(way)-1] {
				if slices.Index(h.Order, place) > int(x.Low) {
					t.Fatalf("%s: %v by %v: edge %v (up: %v) stands for %v, over a place above it", name, g, h, x, up, way)
				}
			}
			if want := placesOf(h, alongEdge(g, h, m, x.Low, x.High, up)); !slices.Equal(way, want) {
				t.Fatalf("%s: %v by %v: edge %v (up: %v) stands for %v, not %v", name, g, h, x, up, way, want)
			}
		}
	}
}

func checkWays(t *testing.T, name string, g impl.Graph, h impl.Hier) {
	t.Helper()
	checkEdgeWays(t, name, g, h)
	checkRoutes(t, name, g, h)
}

func TestUnpackToTheLetter(t *testing.T) {
	// Over places 2, 3 and 4 from 0 to 1, by an order in which those three come first.
	over := func(arcs ...impl.Arc) impl.Graph { return graph(5, arcs...) }
	three := []int64{2, 3, 4, 0, 1}
	cases := []struct {
		name  string
		g     impl.Graph
		order []int64
		low   int64
		high  int64
		up    bool
		want  []int64
	}{
		{"an arc", graph(2, arc(0, 1, 5)), []int64{0, 1}, 0, 1, true, []int64{0, 1}},
		{"an arc, no way back", graph(2, arc(0, 1, 5)), []int64{0, 1}, 0, 1, false, nil},
		{"an arc that leads down", graph(2, arc(0, 1, 5)), []int64{1, 0}, 0, 1, false, []int64{0, 1}},
		{"an arc that leads down, not up", graph(2, arc(0, 1, 5)), []int64{1, 0}, 0, 1, true, nil},
		{"both ways, up", graph(2, arc(0, 1, 5), arc(1, 0, 6)), []int64{0, 1}, 0, 1, true, []int64{0, 1}},
		{"both ways, back", graph(2, arc(0, 1, 5), arc(1, 0, 6)), []int64{0, 1}, 0, 1, false, []int64{1, 0}},
		{"over one", graph(3, arc(0, 2, 3), arc(2, 1, 4)), []int64{2, 0, 1}, 1, 2, true, []int64{0, 2, 1}},
		{"over one, no way back", graph(3, arc(0, 2, 3), arc(2, 1, 4)), []int64{2, 0, 1}, 1, 2, false, nil},
		{"over one, from the upper", graph(3, arc(0, 2, 3), arc(2, 1, 4)), []int64{2, 1, 0}, 1, 2, false, []int64{0, 2, 1}},
		{"the arc is shorter", graph(3, arc(0, 1, 6), arc(0, 2, 3), arc(2, 1, 4)), []int64{2, 0, 1}, 1, 2, true, []int64{0, 1}},
		{"the arc is as long", graph(3, arc(0, 1, 7), arc(0, 2, 3), arc(2, 1, 4)), []int64{2, 0, 1}, 1, 2, true, []int64{0, 1}},
		{"the arc is longer", graph(3, arc(0, 1, 8), arc(0, 2, 3), arc(2, 1, 4)), []int64{2, 0, 1}, 1, 2, true, []int64{0, 2, 1}},
		{"the arc back is as long", graph(3, arc(1, 0, 7), arc(1, 2, 3), arc(2, 0, 4)), []int64{2, 0, 1}, 1, 2, false, []int64{1, 0}},
		{"the arc back is longer", graph(3, arc(1, 0, 8), arc(1, 2, 3), arc(2, 0, 4)), []int64{2, 0, 1}, 1, 2, false, []int64{1, 2, 0}},
		{"three as long: the least rank", over(arc(0, 2, 1), arc(0, 3, 2), arc(0, 4, 3), arc(2, 1, 3), arc(3, 1, 2), arc(4, 1, 1)), three, 3, 4, true, []int64{0, 2, 1}},
		{"three as long, by another order", over(arc(0, 2, 1), arc(0, 3, 2), arc(0, 4, 3), arc(2, 1, 3), arc(3, 1, 2), arc(4, 1, 1)), []int64{4, 3, 2, 0, 1}, 3, 4, true, []int64{0, 4, 1}},
		{"three as long, back", over(arc(1, 2, 1), arc(1, 3, 2), arc(1, 4, 3), arc(2, 0, 3), arc(3, 0, 2), arc(4, 0, 1)), []int64{3, 4, 2, 0, 1}, 3, 4, false, []int64{1, 3, 0}},
		{"the least rank is too long", over(arc(0, 2, 2), arc(0, 3, 2), arc(0, 4, 3), arc(2, 1, 3), arc(3, 1, 2), arc(4, 1, 1)), three, 3, 4, true, []int64{0, 3, 1}},
		{"two as long, and the arc", over(arc(0, 1, 4), arc(0, 2, 1), arc(0, 3, 2), arc(2, 1, 3), arc(3, 1, 2)), three, 3, 4, true, []int64{0, 1}},
		{"over three", over(arc(0, 2, 1), arc(2, 3, 1), arc(3, 4, 1), arc(4, 1, 1)), three, 3, 4, true, []int64{0, 2, 3, 4, 1}},
		{"over three, they fall", over(arc(0, 4, 1), arc(2, 1, 1), arc(3, 2, 1), arc(4, 3, 1)), three, 3, 4, true, []int64{0, 4, 3, 2, 1}},
		{"over three, back", over(arc(1, 3, 1), arc(2, 4, 1), arc(3, 2, 1), arc(4, 0, 1)), three, 3, 4, false, []int64{1, 3, 2, 4, 0}},
	}
	for _, c := range cases {
		h := hierBy(c.g, c.order)
		if got := impl.Unpack(c.g, h, impl.Customize(c.g, h), c.low, c.high, c.up); !slices.Equal(got, c.want) {
			t.Errorf("%s: %v, not %v", c.name, got, c.want)
		}
		checkWays(t, c.name, c.g, h)
	}
}

func TestRouteToTheLetter(t *testing.T) {
	const far = impl.Far
	oneWay := graph(3, arc(0, 1, 2), arc(0, 2, 3), arc(1, 0, 4))
	// From 0 to 3 over 1 or over 2, each way as long.
	two := graph(4, arc(0, 1, 2), arc(0, 2, 1), arc(1, 3, 1), arc(2, 3, 2))
	ringed := graph(4, arc(0, 1, 1), arc(1, 2, 10), arc(2, 3, 100), arc(3, 0, 1000))
	// As two, and on from 3 to 4; turned round below.
	three := graph(5, arc(0, 1, 2), arc(0, 2, 1), arc(1, 3, 1), arc(2, 3, 2), arc(3, 4, 5))
	back := roads(5, false, pairsOf(three, true)...)
	for i, weight := range []int64{2, 1, 1, 2, 5} {
		back.Arcs[i].Weight = weight
	}
	cases := []struct {
		name   string
		g      impl.Graph
		order  []int64
		a      int64
		b      int64
		want   []int64
		length int64
	}{
		{"one place", graph(1), []int64{0}, 0, 0, []int64{0}, 0},
		{"no arcs, to itself", graph(3), []int64{2, 0, 1}, 1, 1, []int64{1}, 0},
		{"no arcs", graph(3), []int64{2, 0, 1}, 0, 1, nil, far},
		{"an arc", graph(2, arc(0, 1, 5)), []int64{0, 1}, 0, 1, []int64{0, 1}, 5},
		{"an arc, falling", graph(2, arc(0, 1, 5)), []int64{1, 0}, 0, 1, []int64{0, 1}, 5},
		{"an arc, no way back", graph(2, arc(0, 1, 5)), []int64{0, 1}, 1, 0, nil, far},
		{"on a ring to itself", ringed, []int64{0, 1, 2, 3}, 2, 2, []int64{2}, 0},
		{"over the first", oneWay, []int64{0, 1, 2}, 1, 2, []int64{1, 0, 2}, 7},
		{"over the last", oneWay, []int64{1, 2, 0}, 1, 2, []int64{1, 0, 2}, 7},
		{"over the one between", oneWay, []int64{2, 0, 1}, 1, 2, []int64{1, 0, 2}, 7},
		{"nothing leads from there", oneWay, []int64{2, 0, 1}, 2, 0, nil, far},
		{"all round, rising", ringed, []int64{0, 1, 2, 3}, 1, 0, []int64{1, 2, 3, 0}, 1110},
		{"all round, falling", ringed, []int64{3, 2, 1, 0}, 1, 0, []int64{1, 2, 3, 0}, 1110},
		{"all round, mixed", ringed, []int64{2, 0, 3, 1}, 3, 2, []int64{3, 0, 1, 2}, 1011},
		// Both middles come first: the edge between the ends stands for two ways.
		{"two as long, unpacked", two, []int64{1, 2, 0, 3}, 0, 3, []int64{0, 1, 3}, 3},
		{"two as long, unpacked, exchanged", two, []int64{2, 1, 0, 3}, 0, 3, []int64{0, 2, 3}, 3},
		// Both middles come last: the Meeting is the one of the lower rank.
		{"two as long, they meet", two, []int64{0, 3, 1, 2}, 0, 3, []int64{0, 1, 3}, 3},
		{"two as long, they meet, exchanged", two, []int64{0, 3, 2, 1}, 0, 3, []int64{0, 2, 3}, 3},
		{"two as long, one below", two, []int64{1, 0, 3, 2}, 0, 3, []int64{0, 1, 3}, 3},
		{"two as long, one below, exchanged", two, []int64{2, 0, 3, 1}, 0, 3, []int64{0, 2, 3}, 3},
		// The middles lie between the one that asks and the Meeting: the least rank below it.
		{"two as long, on the way up", three, []int64{0, 1, 2, 3, 4}, 0, 4, []int64{0, 1, 3, 4}, 8},
		{"two as long, on the way up, exchanged", three, []int64{0, 2, 1, 3, 4}, 0, 4, []int64{0, 2, 3, 4}, 8},
		{"two as long, on the way down", back, []int64{0, 1, 2, 3, 4}, 4, 0, []int64{4, 3, 1, 0}, 8},
		{"two as long, on the way down, exchanged", back, []int64{0, 2, 1, 3, 4}, 4, 0, []int64{4, 3, 2, 0}, 8},
	}
	for _, c := range cases {
		h := hierBy(c.g, c.order)
		way, length := impl.Route(c.g, h, impl.Customize(c.g, h), c.a, c.b)
		if !slices.Equal(way, c.want) || length != c.length {
			t.Errorf("%s: %v %d, not %v %d", c.name, way, length, c.want, c.length)
		}
		checkWays(t, c.name, c.g, h)
	}
}

// shortestWays goes through all ways between two ranks that come to no place twice, and keeps the shortest.
func shortestWays(g impl.Graph, h impl.Hier, from, to int64) [][]int64 {
	var ways [][]int64
	least := int64(impl.Far)
	var goOn func(way []int64, sum int64)
	goOn = func(way []int64, sum int64) {
		at := way[len(way)-1]
		if at == to {
			if sum < least {
				ways, least = nil, sum
			}
			if sum == least {
				ways = append(ways, slices.Clone(way))
			}
			return
		}
		for next := range g.Places {
			if weight := weightByWalk(g, h.Order[at], h.Order[next]); weight < impl.Far && !slices.Contains(way, next) {
				goOn(append(slices.Clone(way), next), sum+weight)
			}
		}
	}
	goOn([]int64{from}, 0)
	return ways
}

// leastTops keeps the ways of which the greatest rank (of their piece from begin on, without so many at their end) is the least.
func leastTops(ways [][]int64, begin, end int) (int64, [][]int64) {
	top, kept := int64(math.MaxInt64), [][]int64{}
	for _, way := range ways {
		greatest := slices.Max(way[begin : len(way)-end])
		if greatest < top {
			top, kept = greatest, nil
		}
		if greatest == top {
			kept = append(kept, way)
		}
	}
	return top, kept
}

// cutAt has what the ways are up to a rank, and from it on.
func cutAt(ways [][]int64, rank int64) ([][]int64, [][]int64) {
	var first, second [][]int64
	for _, way := range ways {
		at := slices.Index(way, rank)
		first = append(first, way[:at+1])
		second = append(second, way[at:])
	}
	return first, second
}

// pickOver tells which of these ways an edge stands for, by no edge and no weight: the arc; else one over the least rank, and likewise to it and from it.
func pickOver(ways [][]int64) []int64 {
	for _, way := range ways {
		if len(way) == 2 {
			return way
		}
	}
	top, kept := leastTops(ways, 1, 1)
	first, second := cutAt(kept, top)
	return slices.Concat(pickOver(first), pickOver(second)[1:])
}

// pickUp tells which of these ways up to a rank that is above all others of them is taken.
func pickUp(ways [][]int64) []int64 {
	if len(ways[0]) == 1 {
		return ways[0]
	}
	top, kept := leastTops(ways, 0, 1)
	first, second := cutAt(kept, top)
	return slices.Concat(pickUp(first), pickOver(second)[1:])
}

func pickDown(ways [][]int64) []int64 {
	if len(ways[0]) == 1 {
		return ways[0]
	}
	top, kept := leastTops(ways, 1, 0)
	first, second := cutAt(kept, top)
	return slices.Concat(pickOver(first), pickDown(second)[1:])
}

// pickRoute tells which of all shortest ways a route is: they meet at the least greatest rank.
func pickRoute(ways [][]int64) []int64 {
	if len(ways) == 0 {
		return nil
	}
	top, kept := leastTops(ways, 0, 0)
	first, second := cutAt(kept, top)
	return slices.Concat(pickUp(first), pickDown(second)[1:])
}

// checkPicks holds Route and Unpack against what is picked of all shortest ways.
func checkPicks(t *testing.T, name string, g impl.Graph, h impl.Hier) {
	t.Helper()
	m := impl.Customize(g, h)
	for from := range g.Places {
		for to := range g.Places {
			want := placesOf(h, pickRoute(shortestWays(g, h, from, to)))
			if got, _ := impl.Route(g, h, m, h.Order[from], h.Order[to]); !slices.Equal(got, want) {
				t.Fatalf("%s: %v by %v from %d to %d: %v, of all shortest ways %v", name, g, h, h.Order[from], h.Order[to], got, want)
			}
		}
	}
	for _, x := range h.Edges {
		less := onlyBetween(g, append(slices.Clone(h.Order[:x.Low+1]), h.Order[x.High]))
		for _, up := range []bool{true, false} {
			from, to := x.Low, x.High
			if !up {
				from, to = to, from
			}
			want := []int64{}
			if ways := shortestWays(less, h, from, to); len(ways) > 0 {
				want = placesOf(h, pickOver(ways))
			}
			if got := impl.Unpack(g, h, m, x.Low, x.High, up); !slices.Equal(got, want) {
				t.Fatalf("%s: %v by %v: edge %v (up: %v) stands for %v, of all shortest ways %v", name, g, h, x, up, got, want)
			}
		}
	}
}

func TestWaysOfAllSmallMaps(t *testing.T) {
	n := numbersFrom(91)
	for places := int64(1); places <= 4; places++ {
		orders := allOrders(places)
		for bits := range 1 << (places * (places - 1)) {
			g := roads(places, false, pickedPairs(places, false, bits)...)
			for i := range g.Arcs {
				g.Arcs[i].Weight = 1 + n.below(3)
			}
			by := orders
			if places == 4 {
				by = [][]int64{orders[n.below(int64(len(orders)))]}
			}
			for _, order := range by {
				h := impl.Hier{Order: order, Edges: impl.Fill(g, order)}
				checkWays(t, "each map", g, h)
				checkPicks(t, "each map", g, h)
			}
		}
	}
}

func TestWaysAsPickedOfAll(t *testing.T) {
	n := numbersFrom(92)
	several := 0
	for range 150 {
		g := someGraph(&n, 5+n.below(3), 8+n.below(16))
		for i := range g.Arcs {
			g.Arcs[i].Weight = 1 + n.below(3)
		}
		for by, order := range someOrders(&n, g) {
			h := hierBy(g, order)
			checkPicks(t, "made, "+by, g, h)
			for from := range g.Places {
				if len(shortestWays(g, h, from, 0)) > 1 {
					several++
				}
			}
		}
	}
	if several < 100 {
		t.Errorf("several ways of the same length come only %d times", several)
	}
}

func TestWaysOfEachKindOfMap(t *testing.T) {
	n := numbersFrom(93)
	maps := someSmallMaps(&n)
	maps["a ring, both"] = roads(7, true, pairsOf(ring(7, 1), false)...)
	maps["a star, both"] = roads(7, true, star(7, 3, true)...)
	maps["whole, arcs in one direction"] = roads(7, false, pickedPairs(7, true, -1)...)
	maps["whole, most"] = fullGraph(10, impl.MaxArcs)
	for name, g := range maps {
		for by, order := range someOrders(&n, g) {
			h := hierBy(g, order)
			checkWays(t, name+", "+by, g, h)
			for _, weight := range []int64{1, impl.MaxWeight} {
				checkWays(t, name+", "+by, allWeighed(g, weight), h)
			}
		}
	}
}

func TestWaysOfOrdinaryMaps(t *testing.T) {
	n := numbersFrom(94)
	for name, g := range orderGraphs() {
		checkWays(t, name, g, impl.NewHier(g))
		// By such an order a great map is whole, nearly: some of those come below.
		if g.Places <= impl.MaxPlaces/2 {
			checkWays(t, name+", mixed", g, hierBy(g, shuffled(&n, g.Places)))
		}
	}
}

func TestWaysOfMadeMaps(t *testing.T) {
	n := numbersFrom(95)
	for range 12 {
		g := someGraph(&n, 1+n.below(impl.MaxPlaces), n.below(impl.MaxArcs+1))
		for by, order := range someOrders(&n, g) {
			for i := range g.Arcs {
				g.Arcs[i].Weight = 1 + n.below([]int64{1, 3, 20, impl.MaxWeight}[n.below(4)])
			}
			checkWays(t, "made, "+by, g, impl.Hier{Order: order, Edges: impl.Fill(g, order)})
		}
	}
}

func TestWaysOfMapsWeighedAnew(t *testing.T) {
	n := numbersFrom(96)
	g := someGraph(&n, 9, 24)
	for by, order := range someOrders(&n, g) {
		h := hierBy(g, order)
		x, m := g, impl.Customize(g, h)
		for range 10 {
			x, m, _ = impl.Recustomize(x, h, m, newWeights(&n, g, 4))
			for a := range g.Places {
				for b, want := range distancesByRounds(x, a) {
					way, length := impl.Route(x, h, m, a, int64(b))
					if length != want {
						t.Fatalf("%s: %v from %d to %d: %d, not %d", by, x, a, b, length, want)
					}
					if want < impl.Far {
						checkWay(t, by, x, way, a, int64(b), want)
					}
				}
			}
		}
	}
}

func TestWaysOfManyPlaces(t *testing.T) {
	n := numbersFrom(97)
	const last = impl.MaxPlaces - 1
	for _, weight := range []int64{1, impl.MaxWeight} {
		g := chain(impl.MaxPlaces, weight)
		// The ends of the chain come last: the edge between them stands for all of it, whatever the order of the others.
		for range 20 {
			inner := shuffled(&n, impl.MaxPlaces-2)
			for i := range inner {
				inner[i]++
			}
			for _, ends := range [][]int64{{0, last}, {last, 0}} {
				h := hierBy(g, slices.Concat(inner, ends))
				m := impl.Customize(g, h)
				up := ends[0] == 0
				if got := impl.Unpack(g, h, m, last-1, last, up); !slices.Equal(got, upTo(impl.MaxPlaces)) {
					t.Fatalf("all of a chain by %v: %v", h.Order, got)
				}
				if got := impl.Unpack(g, h, m, last-1, last, !up); len(got) != 0 {
					t.Fatalf("a chain by %v, back: %v", h.Order, got)
				}
				way, length := impl.Route(g, h, m, 0, last)
				if !slices.Equal(way, upTo(impl.MaxPlaces)) || length != last*weight {
					t.Fatalf("all along a chain by %v: %v %d", h.Order, way, length)
				}
			}
		}
		for by, order := range someOrders(&n, g) {
			h := hierBy(g, order)
			way, length := impl.Route(g, h, impl.Customize(g, h), 0, last)
			if !slices.Equal(way, upTo(impl.MaxPlaces)) || length != last*weight {
				t.Fatalf("all along a chain, %s: %v %d", by, way, length)
			}
		}
	}
}

func TestUnpackOfEdgesThatAreNotThere(t *testing.T) {
	n := numbersFrom(98)
	for name, g := range someSmallMaps(&n) {
		for by, order := range someOrders(&n, g) {
			h := hierBy(g, order)
			m := impl.Customize(g, h)
			asked := append(noPlaces(g.Places), upTo(g.Places)...)
			for _, low := range asked {
				for _, high := range asked {
					if slices.Contains(h.Edges, edge(low, high)) {
						continue
					}
					for _, up := range []bool{true, false} {
						if got := impl.Unpack(g, h, m, low, high, up); len(got) != 0 {
							t.Fatalf("%s, %s: %v by %v: no edge from %d to %d, and it stands for %v", name, by, g, h, low, high, got)
						}
					}
				}
			}
		}
	}
}

func TestRouteOutOfRange(t *testing.T) {
	n := numbersFrom(99)
	for name, g := range someSmallMaps(&n) {
		for by, order := range someOrders(&n, g) {
			h := hierBy(g, order)
			m := impl.Customize(g, h)
			for _, wrong := range noPlaces(g.Places) {
				for _, other := range append(noPlaces(g.Places), 0, g.Places/2, g.Places-1, wrong) {
					refuseRoute(t, name+", "+by, g, h, m, wrong, other)
					refuseRoute(t, name+", "+by, g, h, m, other, wrong)
				}
			}
		}
	}
}

func refuseRoute(t *testing.T, name string, g impl.Graph, h impl.Hier, m impl.Metric, a, b int64) {
	t.Helper()
	if way, length := impl.Route(g, h, m, a, b); len(way) != 0 || length != impl.Far {
		t.Fatalf("%s: %v by %v with %v from %d to %d: %v %d", name, g, h, m, a, b, way, length)
	}
}

// refuseWays asks that what is no metric of the map gets the fixed answers, whatever is asked for.
func refuseWays(t *testing.T, name string, g impl.Graph, h impl.Hier, m impl.Metric) {
	t.Helper()
	places := int64(len(h.Order))
	for _, ends := range [][2]int64{{0, 0}, {0, 1}, {1, 0}, {places - 1, 0}, {places - 1, places - 1}, {-1, 0}} {
		refuseRoute(t, name, g, h, m, ends[0], ends[1])
	}
	asked := append([]impl.Edge{edge(0, 0), edge(0, 1)}, h.Edges[:min(len(h.Edges), 4)]...)
	for _, x := range asked {
		for _, up := range []bool{true, false} {
			if got := impl.Unpack(g, h, m, x.Low, x.High, up); len(got) != 0 {
				t.Fatalf("%s: %v by %v with %v: edge %v (up: %v) stands for %v", name, g, h, m, x, up, got)
			}
		}
	}
}

func TestWaysOfWrongMaps(t *testing.T) {
	for name, g := range wrongGraphs() {
		hiers := []impl.Hier{{}, hier([]int64{0}), hier([]int64{0, 1}, edge(0, 1)), hier([]int64{0, 1}), hier([]int64{0, 1, 2}, allEdges(3)...)}
		if g.Places >= 0 && g.Places <= impl.MaxPlaces+1 {
			hiers = append(hiers, hier(upTo(g.Places)), hier(upTo(g.Places), allEdges(g.Places)...))
		}
		for _, h := range hiers {
			weights := make([]int64, len(h.Edges))
			refuseWays(t, name, g, h, impl.Metric{})
			refuseWays(t, name, g, h, metric(weights, weights))
		}
	}
	// A right map, made wrong by one thing, with the hierarchy and the metric that it had.
	right := graph(3, arc(0, 1, 2), arc(0, 2, 3), arc(1, 0, 4))
	h := impl.NewHier(right)
	m := impl.Customize(right, h)
	for name, g := range map[string]impl.Graph{
		"a Weight of 0":     graph(3, arc(0, 1, 0), arc(0, 2, 3), arc(1, 0, 4)),
		"a great Weight":    graph(3, arc(0, 1, impl.MaxWeight+1), arc(0, 2, 3), arc(1, 0, 4)),
		"falling":           graph(3, arc(0, 2, 3), arc(0, 1, 2), arc(1, 0, 4)),
		"one twice":         graph(3, arc(0, 1, 2), arc(0, 2, 3), arc(1, 0, 4), arc(1, 0, 4)),
		"a place to itself": graph(3, arc(0, 0, 1), arc(0, 1, 2), arc(0, 2, 3), arc(1, 0, 4)),
		"no such place":     graph(3, arc(0, 1, 2), arc(0, 2, 3), arc(1, 0, 4), arc(2, 3, 1)),
		"no places":         graph(0, right.Arcs...),
		"too few places":    graph(2, right.Arcs...),
		"too many places":   graph(impl.MaxPlaces+1, right.Arcs...),
		"one place more":    graph(4, right.Arcs...),
		"an arc more":       graph(3, arc(0, 1, 2), arc(0, 2, 3), arc(1, 0, 4), arc(2, 1, 3)),
		"an arc fewer":      graph(3, arc(0, 1, 2), arc(0, 2, 3)),
	} {
		refuseWays(t, name, g, h, m)
	}
}

func TestWaysOfWrongHiers(t *testing.T) {
	n := numbersFrom(100)
	for name, g := range someSmallMaps(&n) {
		for by, order := range map[string][]int64{"by Order": impl.Order(g), "mixed": shuffled(&n, g.Places)} {
			right := hierBy(g, order)
			m := impl.Customize(g, right)
			wrong := wrongHiers(&n, right)
			for what, h := range wrong {
				// There may be hundreds of one great map: one in four of them is enough.
				if len(wrong) > 400 && n.below(4) > 0 {
					continue
				}
				refuseWays(t, name+", "+by+", "+what, g, h, m)
				// What Customize answers for such a one is no metric of the map.
				refuseWays(t, name+", "+by+", "+what, g, h, impl.Customize(g, h))
			}
		}
	}
}

func TestWaysOfOtherMetrics(t *testing.T) {
	n := numbersFrom(101)
	for name, g := range someSmallMaps(&n) {
		for by, order := range map[string][]int64{"by Order": impl.Order(g), "mixed": shuffled(&n, g.Places)} {
			h := hierBy(g, order)
			m := impl.Customize(g, h)
			others := []impl.Metric{
				{}, {Up: m.Up}, {Down: m.Down}, metric(m.Down, m.Up), metric(resized(m.Up, 1), m.Down), metric(m.Up, resized(m.Down, 1)),
				metric(resized(m.Up, 1), resized(m.Down, 1)), metric(resized(m.Up, -1), m.Down), metric(m.Up, resized(m.Down, -1)), metric(resized(m.Up, -1), resized(m.Down, -1)),
				metric(make([]int64, len(m.Up)), make([]int64, len(m.Down))), impl.Customize(allWeighed(g, 777), h),
			}
			for i := range h.Edges {
				for _, more := range []int64{-1, 1} {
					up, down := cloneMetric(m), cloneMetric(m)
					up.Up[i] += more
					down.Down[i] += more
					others = append(others, up, down)
				}
			}
			for _, other := range others {
				if !sameMetric(other, m) {
					refuseWays(t, name+", "+by, g, h, other)
				}
			}
		}
	}
}

func TestWaysWantTheMetricAsWeighedNow(t *testing.T) {
	g := graph(3, arc(0, 1, 2), arc(0, 2, 3), arc(1, 0, 4))
	for _, order := range allOrders(3) {
		h := hierBy(g, order)
		m := impl.Customize(g, h)
		weighed, news, _ := impl.Recustomize(g, h, m, []impl.Arc{arc(1, 0, 1)})
		refuseWays(t, "the metric ahead", weighed, h, m)
		refuseWays(t, "the map ahead", g, h, news)
		checkWays(t, "weighed", weighed, h)
		if way, length := impl.Route(weighed, h, news, 1, 2); !slices.Equal(way, []int64{1, 0, 2}) || length != 4 {
			t.Errorf("by %v: %v %d", order, way, length)
		}
	}
}

func TestRouteArgumentsStay(t *testing.T) {
	n := numbersFrom(102)
	graphs := orderGraphs()
	for name, g := range wrongGraphs() {
		graphs["wrong: "+name] = g
	}
	for name, g := range graphs {
		count := max(1, min(g.Places, impl.MaxPlaces))
		mixed := shuffled(&n, count)
		hiers := []impl.Hier{{}, impl.NewHier(g), hier(mixed, impl.Fill(g, mixed)...), hier(upTo(count), allEdges(count)...), hier(upTo(count)), hier(falling(count), edge(0, 0), edge(-1, 1))}
		for _, h := range hiers {
			for _, m := range []impl.Metric{{}, impl.Customize(g, h), someMetric(&n, len(h.Edges)), metric([]int64{-1}, []int64{impl.Far + 1})} {
				w := watchMetric(g, h, m, nil)
				for _, a := range []int64{-1, 0, count - 1} {
					for _, b := range []int64{0, count - 1, count} {
						impl.Route(w.g, w.h, w.m, a, b)
						impl.Unpack(w.g, w.h, w.m, a, b, true)
						impl.Unpack(w.g, w.h, w.m, a, b, false)
					}
				}
				w.check(t, name)
			}
		}
	}
}

// checkNew asks that what is answered by the lists that are watched is new memory each time.
func checkNew(t *testing.T, name string, w watchedMetric, answer func() []int64) {
	t.Helper()
	first, second := answer(), answer()
	kept := slices.Clone(second)
	overwrite(first, markedPlace)
	w.check(t, name)
	if third := answer(); !slices.Equal(second, kept) || !slices.Equal(third, kept) {
		t.Fatalf("%s: writing into one answer changed another: %v %v, were %v", name, second, third, kept)
	}
	w.overwrite()
	if !slices.Equal(second, kept) {
		t.Fatalf("%s: an answer shares memory with an argument: %v, was %v", name, second, kept)
	}
}

func TestRouteAnswersAreNew(t *testing.T) {
	n := numbersFrom(103)
	for name, g := range orderGraphs() {
		h := hierBy(g, shuffled(&n, g.Places))
		m := impl.Customize(g, h)
		for _, a := range []int64{0, g.Places - 1} {
			for _, b := range []int64{0, g.Places / 2, g.Places - 1} {
				w := watchMetric(g, h, m, nil)
				checkNew(t, name, w, func() []int64 {
					way, _ := impl.Route(w.g, w.h, w.m, a, b)
					return way
				})
			}
		}
		for _, x := range h.Edges[:min(len(h.Edges), 30)] {
			for _, up := range []bool{true, false} {
				w := watchMetric(g, h, m, nil)
				checkNew(t, name, w, func() []int64 { return impl.Unpack(w.g, w.h, w.m, x.Low, x.High, up) })
			}
		}
	}
}
