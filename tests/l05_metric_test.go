package tests

import (
	"math"
	"slices"
	"testing"

	"loop.example/g00161/impl"
)

func hier(order []int64, edges ...impl.Edge) impl.Hier {
	return impl.Hier{Order: order, Edges: edges}
}

// hierBy is the hierarchy of a map by an order, told by another way than Fill does.
func hierBy(g impl.Graph, order []int64) impl.Hier {
	return impl.Hier{Order: slices.Clone(order), Edges: fillByWays(g, order)}
}

func metric(up, down []int64) impl.Metric {
	return impl.Metric{Up: up, Down: down}
}

func sameMetric(a, b impl.Metric) bool {
	return slices.Equal(a.Up, b.Up) && slices.Equal(a.Down, b.Down)
}

func cloneHier(h impl.Hier) impl.Hier {
	return impl.Hier{Order: slices.Clone(h.Order), Edges: slices.Clone(h.Edges)}
}

func cloneMetric(m impl.Metric) impl.Metric {
	return metric(slices.Clone(m.Up), slices.Clone(m.Down))
}

func isZeroHier(h impl.Hier) bool {
	return len(h.Order) == 0 && len(h.Edges) == 0
}

func isZeroMetric(m impl.Metric) bool {
	return len(m.Up) == 0 && len(m.Down) == 0
}

// onlyBetween is a map without the arcs of other places than these.
func onlyBetween(g impl.Graph, places []int64) impl.Graph {
	less := graph(g.Places)
	for _, x := range g.Arcs {
		if slices.Contains(places, x.From) && slices.Contains(places, x.To) {
			less.Arcs = append(less.Arcs, x)
		}
	}
	return less
}

// metricByWays goes through no triangle: a weight is the length of the shortest way between its two ends over places of lower ranks alone.
func metricByWays(g impl.Graph, h impl.Hier) impl.Metric {
	m := impl.Metric{}
	for _, x := range h.Edges {
		low, high := h.Order[x.Low], h.Order[x.High]
		less := onlyBetween(g, append(slices.Clone(h.Order[:x.Low]), low, high))
		m.Up = append(m.Up, distancesByRounds(less, low)[high])
		m.Down = append(m.Down, distancesByRounds(less, high)[low])
	}
	return m
}

// metricRightByWalk is MetricOk by the words of the chapter.
func metricRightByWalk(h impl.Hier, m impl.Metric) bool {
	return chordalByWalk(h.Edges, int64(len(h.Order))) && weightsRightByWalk(h.Edges, m)
}

// weightsRightByWalk asks, of each edge, each rank below both its ends.
func weightsRightByWalk(edges []impl.Edge, m impl.Metric) bool {
	if len(m.Up) != len(edges) || len(m.Down) != len(edges) {
		return false
	}
	numbers := map[impl.Edge]int{}
	for i, x := range edges {
		if min(m.Up[i], m.Down[i]) < 0 || max(m.Up[i], m.Down[i]) > impl.Far {
			return false
		}
		numbers[x] = i
	}
	for i, x := range edges {
		for below := range x.Low {
			low, hasLow := numbers[edge(below, x.Low)]
			high, hasHigh := numbers[edge(below, x.High)]
			if hasLow && hasHigh && (m.Up[i] > m.Down[low]+m.Up[high] || m.Down[i] > m.Down[high]+m.Up[low]) {
				return false
			}
		}
	}
	return true
}

// checkMetric holds promise 5 for one map and one hierarchy.
func checkMetric(t *testing.T, name string, g impl.Graph, h impl.Hier) impl.Metric {
	t.Helper()
	if !impl.HierOk(g, h) {
		t.Fatalf("%s: %v: the hierarchy %v is refused", name, g, h)
	}
	m := impl.Customize(g, h)
	if want := metricByWays(g, h); !sameMetric(m, want) {
		t.Fatalf("%s: %v by %v: the metric is %v, not %v", name, g, h, m, want)
	}
	if !impl.MetricOk(h, m) {
		t.Fatalf("%s: %v by %v: the metric %v is refused", name, g, h, m)
	}
	return m
}

func TestNewHierToTheLetter(t *testing.T) {
	cases := []struct {
		name string
		g    impl.Graph
		want impl.Hier
	}{
		{"one place", graph(1), hier([]int64{0})},
		{"no arcs", graph(3), hier([]int64{0, 1, 2})},
		{"one arc", graph(2, arc(0, 1, 5)), hier([]int64{0, 1}, edge(0, 1))},
		{"one arc back", graph(2, arc(1, 0, 5)), hier([]int64{0, 1}, edge(0, 1))},
		{"a chain from its middle", roads(3, false, [2]int64{0, 1}, [2]int64{0, 2}), hier([]int64{1, 0, 2}, edge(0, 1), edge(1, 2))},
		{"a star", roads(5, true, star(5, 0, true)...), hier([]int64{1, 2, 3, 0, 4}, edge(0, 3), edge(1, 3), edge(2, 3), edge(3, 4))},
		{"a ring", ring(4, 7), hier([]int64{0, 1, 2, 3}, edge(0, 1), edge(0, 3), edge(1, 2), edge(1, 3), edge(2, 3))},
		{"whole", fullGraph(4, impl.MaxArcs), hier(upTo(4), allEdges(4)...)},
	}
	for _, c := range cases {
		if got := impl.NewHier(c.g); !slices.Equal(got.Order, c.want.Order) || !slices.Equal(got.Edges, c.want.Edges) {
			t.Errorf("%s: %v, not %v", c.name, got, c.want)
		}
	}
}

func TestNewHier(t *testing.T) {
	for name, g := range orderGraphs() {
		got, want := impl.NewHier(g), hierBy(g, orderByWays(g))
		if !slices.Equal(got.Order, want.Order) || !slices.Equal(got.Edges, want.Edges) {
			t.Fatalf("%s: %v has the hierarchy %v, not %v", name, g, got, want)
		}
		checkMetric(t, name, g, got)
	}
	for name, g := range wrongGraphs() {
		if got := impl.NewHier(g); !isZeroHier(got) {
			t.Errorf("%s: a wrong map has the hierarchy %v", name, got)
		}
	}
}

func TestCustomizeToTheLetter(t *testing.T) {
	const far = impl.Far
	oneWay := graph(3, arc(0, 1, 2), arc(0, 2, 3), arc(1, 0, 4))
	cases := []struct {
		name  string
		g     impl.Graph
		order []int64
		up    []int64
		down  []int64
	}{
		{"one place", graph(1), []int64{0}, nil, nil},
		{"no arcs", graph(3), []int64{2, 0, 1}, nil, nil},
		{"one arc", graph(2, arc(0, 1, 5)), []int64{0, 1}, []int64{5}, []int64{far}},
		{"one arc, falling", graph(2, arc(0, 1, 5)), []int64{1, 0}, []int64{far}, []int64{5}},
		{"both ways", graph(2, arc(0, 1, 5), arc(1, 0, 6)), []int64{0, 1}, []int64{5}, []int64{6}},
		{"both ways, falling", graph(2, arc(0, 1, 5), arc(1, 0, 6)), []int64{1, 0}, []int64{6}, []int64{5}},
		{"over the first", oneWay, []int64{0, 1, 2}, []int64{2, 3, 7}, []int64{4, far, far}},
		{"the first is last", oneWay, []int64{1, 2, 0}, []int64{4, far}, []int64{2, 3}},
		{"the first in the middle", oneWay, []int64{2, 0, 1}, []int64{far, 2}, []int64{3, 4}},
		{"a way over that is longer", graph(3, arc(0, 1, 5), arc(0, 2, 3), arc(2, 1, 3)), []int64{2, 0, 1}, []int64{far, 3, 5}, []int64{3, far, far}},
		{"a way over that is as long", graph(3, arc(0, 1, 6), arc(0, 2, 3), arc(2, 1, 3)), []int64{2, 0, 1}, []int64{far, 3, 6}, []int64{3, far, far}},
		{"a way over that is shorter", graph(3, arc(0, 1, 7), arc(0, 2, 3), arc(2, 1, 3)), []int64{2, 0, 1}, []int64{far, 3, 6}, []int64{3, far, far}},
		{"a way over, back", graph(3, arc(0, 1, 7), arc(0, 2, 3), arc(2, 1, 3)), []int64{2, 1, 0}, []int64{3, far, far}, []int64{far, 3, 6}},
		{"no way over, both lead there", graph(3, arc(0, 2, 3), arc(1, 2, 3)), []int64{2, 0, 1}, []int64{far, far, far}, []int64{3, 3, far}},
		{"no way over, both lead from there", graph(3, arc(2, 0, 3), arc(2, 1, 3)), []int64{2, 0, 1}, []int64{3, 3, far}, []int64{far, far, far}},
		{"a ring", graph(4, arc(0, 1, 1), arc(1, 2, 10), arc(2, 3, 100), arc(3, 0, 1000)), []int64{0, 1, 2, 3},
			[]int64{1, far, 10, far, 100}, []int64{far, 1000, far, 1001, 1011}},
		{"a star, its middle first", graph(4, arc(0, 1, 1), arc(0, 2, 10), arc(0, 3, 100), arc(1, 0, 2), arc(3, 0, 200)), []int64{0, 1, 2, 3},
			[]int64{1, 10, 100, 12, 102, far}, []int64{2, far, 200, far, 201, 210}},
		{"the greatest Weights", graph(3, arc(0, 1, impl.MaxWeight), arc(1, 2, impl.MaxWeight)), []int64{1, 0, 2}, []int64{far, 1000000, 2000000}, []int64{1000000, far, far}},
		{"the least Weights", graph(3, arc(0, 1, 1), arc(1, 2, 1)), []int64{1, 0, 2}, []int64{far, 1, 2}, []int64{1, far, far}},
	}
	for _, c := range cases {
		h := hierBy(c.g, c.order)
		if got := impl.Customize(c.g, h); !sameMetric(got, metric(c.up, c.down)) {
			t.Errorf("%s: %v, not %v %v", c.name, got, c.up, c.down)
		}
		checkMetric(t, c.name, c.g, h)
	}
}

func TestCustomizeByManyOrders(t *testing.T) {
	n := numbersFrom(51)
	for name, g := range orderGraphs() {
		for by, order := range someOrders(&n, g) {
			checkMetric(t, name+", "+by, g, hierBy(g, order))
		}
	}
}

func TestCustomizeOfAllSmallMaps(t *testing.T) {
	n := numbersFrom(52)
	for places := int64(1); places <= 4; places++ {
		orders := allOrders(places)
		for bits := range 1 << (places * (places - 1)) {
			g := roads(places, false, pickedPairs(places, false, bits)...)
			for i := range g.Arcs {
				g.Arcs[i].Weight = 1 + n.below(9)
			}
			for _, order := range orders {
				checkMetric(t, "each map", g, hierBy(g, order))
			}
		}
	}
}

func TestCustomizeOfMadeMaps(t *testing.T) {
	n := numbersFrom(53)
	for range 100 {
		g := someGraph(&n, 1+n.below(impl.MaxPlaces), n.below(impl.MaxArcs+1))
		for by, order := range someOrders(&n, g) {
			for i := range g.Arcs {
				g.Arcs[i].Weight = 1 + n.below([]int64{3, 20, impl.MaxWeight}[n.below(3)])
			}
			checkMetric(t, "made, "+by, g, hierBy(g, order))
		}
	}
}

func TestCustomizeAtTheGreatestAndLeastWeights(t *testing.T) {
	n := numbersFrom(54)
	for _, g := range []impl.Graph{ladder(), fullGraph(10, impl.MaxArcs), someGraph(&n, impl.MaxPlaces, impl.MaxArcs)} {
		for by, order := range someOrders(&n, g) {
			least := checkMetric(t, by, allWeighed(g, 1), hierBy(g, order))
			most := checkMetric(t, by, allWeighed(g, impl.MaxWeight), hierBy(g, order))
			for i, up := range least.Up {
				if up != impl.Far && most.Up[i] != up*impl.MaxWeight || up == impl.Far && most.Up[i] != impl.Far {
					t.Fatalf("%s: edge %d has the weights %d and %d", by, i, up, most.Up[i])
				}
			}
		}
	}
}

// wrongHiers are hierarchies near a right one, of which none is right.
func wrongHiers(n *numbersFrom, right impl.Hier) map[string]impl.Hier {
	all := map[string]impl.Hier{
		"zero":                     {},
		"no order":                 {Edges: right.Edges},
		"one place more":           {Order: append(slices.Clone(right.Order), int64(len(right.Order))), Edges: right.Edges},
		"one place fewer":          {Order: right.Order[:len(right.Order)-1], Edges: right.Edges},
		"the order twice":          {Order: append(slices.Clone(right.Order), right.Order...), Edges: right.Edges},
		"an edge that is none":     {Order: right.Order, Edges: append(slices.Clone(right.Edges), edge(0, 0))},
		"an edge to no place":      {Order: right.Order, Edges: append(slices.Clone(right.Edges), edge(0, int64(len(right.Order))))},
		"an edge below 0, ahead":   {Order: right.Order, Edges: slices.Insert(slices.Clone(right.Edges), 0, edge(-1, 0))},
		"edges of many places":     {Order: right.Order, Edges: allEdges(impl.MaxPlaces + 1)},
		"an order of no such size": {Order: upTo(100000), Edges: right.Edges},
	}
	for i, place := range []int64{-1, int64(len(right.Order)), math.MinInt64, math.MaxInt64, 1 << 32} {
		h := cloneHier(right)
		h.Order[n.below(int64(len(h.Order)))] = place
		all["no place "+showByHand(graph(int64(i)))] = h
	}
	if len(right.Order) > 1 {
		h := cloneHier(right)
		h.Order[0] = h.Order[len(h.Order)-1]
		all["a place twice"] = h
	}
	wrongFills(all, right)
	return all
}

// wrongFills adds those whose order is right: with one edge missing, too many, exchanged or changed.
func wrongFills(all map[string]impl.Hier, right impl.Hier) {
	put := func(name string, i int, edges []impl.Edge) {
		all[name+" "+showByHand(graph(int64(i)))] = impl.Hier{Order: right.Order, Edges: edges}
	}
	for i, x := range right.Edges {
		put("without", i, slices.Delete(slices.Clone(right.Edges), i, i+1))
		put("twice", i, slices.Insert(slices.Clone(right.Edges), i, x))
		put("cut at", i, right.Edges[:i])
		exchanged := slices.Clone(right.Edges)
		exchanged[i], exchanged[0] = exchanged[0], exchanged[i]
		if i > 0 {
			put("exchanged with the first", i, exchanged)
		}
		for k, y := range []impl.Edge{edge(x.High, x.Low), edge(x.Low, x.High+1), edge(x.Low-1, x.High), edge(x.Low, x.Low), edge(x.Low, math.MaxInt64), edge(math.MinInt64, x.High)} {
			changed := slices.Clone(right.Edges)
			changed[i] = y
			put("changed "+showByHand(graph(int64(k))), i, changed)
		}
	}
	for i, x := range allEdges(int64(len(right.Order))) {
		if at, found := slices.BinarySearchFunc(right.Edges, x, func(a, b impl.Edge) int {
			return int((a.Low-b.Low)*impl.MaxPlaces + a.High - b.High)
		}); !found {
			put("with one more", i, slices.Insert(slices.Clone(right.Edges), at, x))
			put("with one more behind", i, append(slices.Clone(right.Edges), x))
		}
	}
}

// refuseHier asks that a hierarchy that is not of this map gets the fixed answers.
func refuseHier(t *testing.T, name string, g impl.Graph, h impl.Hier, m impl.Metric) {
	t.Helper()
	if impl.HierOk(g, h) {
		t.Fatalf("%s: %v is a hierarchy of %v", name, h, g)
	}
	if got := impl.Customize(g, h); !isZeroMetric(got) {
		t.Fatalf("%s: %v by %v, which is no hierarchy of it, has the metric %v", name, g, h, got)
	}
	for _, m := range []impl.Metric{m, {}} {
		if x, n, is := impl.Recustomize(g, h, m, nil); is || !isZeroGraph(x) || !isZeroMetric(n) {
			t.Fatalf("%s: %v by %v, which is no hierarchy of it, is weighed: %v %v %v", name, g, h, x, n, is)
		}
	}
}

func someSmallMaps(n *numbersFrom) map[string]impl.Graph {
	return map[string]impl.Graph{
		"one place":  graph(1),
		"no arcs":    graph(3),
		"one arc":    graph(2, arc(1, 0, 5)),
		"a chain":    chain(5, 7),
		"a ring":     ring(6, 7),
		"a star":     roads(6, false, star(6, 2, true)...),
		"a star, in": roads(6, false, star(6, 2, false)...),
		"whole":      fullGraph(5, impl.MaxArcs),
		"two parts":  graph(6, arc(0, 1, 2), arc(1, 2, 2), arc(3, 4, 2), arc(5, 3, 2)),
		"made":       someGraph(n, 8, 14),
		"made, most": someGraph(n, impl.MaxPlaces, impl.MaxArcs),
	}
}

func TestHierOkRefuses(t *testing.T) {
	n := numbersFrom(55)
	for name, g := range someSmallMaps(&n) {
		for by, order := range someOrders(&n, g) {
			right := hierBy(g, order)
			m := checkMetric(t, name+", "+by, g, right)
			for what, h := range wrongHiers(&n, right) {
				refuseHier(t, name+", "+by+", "+what, g, h, m)
			}
		}
	}
}

func TestHierOkOfAnotherOrder(t *testing.T) {
	g := chain(4, 7)
	edges := fillByWays(g, upTo(4))
	for _, order := range allOrders(4) {
		h := impl.Hier{Order: order, Edges: edges}
		want := slices.Equal(fillByWays(g, order), edges)
		if got := impl.HierOk(g, h); got != want {
			t.Errorf("the edges of the order that rises by %v: %v", order, got)
		}
		if got := impl.Customize(g, h); isZeroMetric(got) == want {
			t.Errorf("the edges of the order that rises by %v: the metric %v", order, got)
		}
	}
}

func TestHierOkOfAnotherMap(t *testing.T) {
	n := numbersFrom(56)
	maps := someSmallMaps(&n)
	for name, g := range maps {
		for other, x := range maps {
			h := impl.NewHier(x)
			want := x.Places == g.Places && slices.Equal(fillByWays(g, h.Order), h.Edges)
			if want != impl.HierOk(g, h) {
				t.Fatalf("%s, the hierarchy of %s: %v", name, other, !want)
			}
			if !want {
				refuseHier(t, name+", of "+other, g, h, impl.Customize(x, h))
			}
		}
		// Which edges there are hangs on no Weight and on no direction.
		if h := impl.NewHier(g); !impl.HierOk(allWeighed(g, impl.MaxWeight), h) || !impl.HierOk(roads(g.Places, false, pairsOf(g, true)...), h) {
			t.Fatalf("%s: weighed or turned round: the hierarchy is refused", name)
		}
	}
}

func TestMetricsOfWrongMaps(t *testing.T) {
	for name, g := range wrongGraphs() {
		hiers := []impl.Hier{{}, hier([]int64{0}), hier([]int64{0, 1}, edge(0, 1)), hier([]int64{0, 1}), hier([]int64{0, 1, 2}, allEdges(3)...), hier(upTo(impl.MaxPlaces), allEdges(impl.MaxPlaces)...)}
		if g.Places >= 0 && g.Places <= impl.MaxPlaces+1 {
			hiers = append(hiers, hier(upTo(g.Places)), hier(upTo(g.Places), allEdges(g.Places)...), hier(upTo(g.Places), impl.Fill(allWeighed(g, 1), upTo(g.Places))...))
		}
		for _, h := range hiers {
			weights := make([]int64, len(h.Edges))
			refuseHier(t, name, g, h, metric(weights, weights))
			for _, arcs := range [][]impl.Arc{{}, {arc(0, 1, 5)}, g.Arcs} {
				if x, n, is := impl.Recustomize(g, h, impl.Metric{}, arcs); is || !isZeroGraph(x) || !isZeroMetric(n) {
					t.Fatalf("%s: a wrong map is weighed: %v %v %v", name, x, n, is)
				}
			}
		}
	}
}

func TestMetricOkToTheLetter(t *testing.T) {
	const far = impl.Far
	three := hier(upTo(3), allEdges(3)...)
	ringed := hier(upTo(4), edge(0, 1), edge(0, 3), edge(1, 2), edge(1, 3), edge(2, 3))
	cases := []struct {
		name string
		h    impl.Hier
		up   []int64
		down []int64
		want bool
	}{
		{"zero", impl.Hier{}, nil, nil, false},
		{"one place", hier([]int64{0}), nil, nil, true},
		{"one place, empty lists", hier([]int64{0}), []int64{}, []int64{}, true},
		{"one place, a weight", hier([]int64{0}), []int64{1}, []int64{1}, false},
		{"MaxPlaces, no edges", hier(upTo(impl.MaxPlaces)), nil, nil, true},
		{"one past MaxPlaces, no edges", hier(upTo(impl.MaxPlaces + 1)), nil, nil, false},
		{"no places, an edge", hier(nil, edge(0, 1)), []int64{1}, []int64{1}, false},
		{"one edge", hier(upTo(2), edge(0, 1)), []int64{3}, []int64{4}, true},
		{"weights of 0", hier(upTo(2), edge(0, 1)), []int64{0}, []int64{0}, true},
		{"weights of Far", hier(upTo(2), edge(0, 1)), []int64{far}, []int64{far}, true},
		{"Up above Far", hier(upTo(2), edge(0, 1)), []int64{far + 1}, []int64{1}, false},
		{"Down above Far", hier(upTo(2), edge(0, 1)), []int64{1}, []int64{far + 1}, false},
		{"Up below 0", hier(upTo(2), edge(0, 1)), []int64{-1}, []int64{1}, false},
		{"Down below 0", hier(upTo(2), edge(0, 1)), []int64{1}, []int64{-1}, false},
		{"an edge of one place", hier(upTo(1), edge(0, 1)), []int64{1}, []int64{1}, false},
		{"no Up", hier(upTo(2), edge(0, 1)), nil, []int64{1}, false},
		{"no Down", hier(upTo(2), edge(0, 1)), []int64{1}, nil, false},
		{"Up too many", hier(upTo(2), edge(0, 1)), []int64{1, 1}, []int64{1}, false},
		{"Down too many", hier(upTo(2), edge(0, 1)), []int64{1}, []int64{1, 1}, false},
		// Up of the edge 1 2 is at most Down of 0 1 (20) and Up of 0 2 (3); Down at most Down of 0 2 (400) and Up of 0 1 (1).
		{"just at a triangle", three, []int64{1, 3, 23}, []int64{20, 400, 401}, true},
		{"below a triangle", three, []int64{1, 3, 0}, []int64{20, 400, 0}, true},
		{"Up just above a triangle", three, []int64{1, 3, 24}, []int64{20, 400, 401}, false},
		{"Down just above a triangle", three, []int64{1, 3, 23}, []int64{20, 400, 402}, false},
		{"Far above a triangle", three, []int64{1, 3, far}, []int64{20, 400, 401}, false},
		{"a part is Far", three, []int64{far, 3, far}, []int64{far, 400, far}, true},
		{"the other part is Far", three, []int64{1, far, far}, []int64{20, far, far}, true},
		{"only the way up is Far", three, []int64{1, far, far}, []int64{20, 400, 402}, false},
		{"a sum of just Far", three, []int64{1, far - 20, far}, []int64{20, far - 1, far}, true},
		{"a sum just below Far", three, []int64{1, far - 21, far}, []int64{20, far - 1, far}, false},
		{"a sum just below Far, back", three, []int64{1, far - 20, far}, []int64{20, far - 2, far}, false},
		{"sums above Far", three, []int64{far - 1, far - 1, far}, []int64{far - 1, far - 1, far}, true},
		{"sums of twice Far", three, []int64{far, far, far}, []int64{far, far, far}, true},
		{"the second triangle", ringed, []int64{1, 2, 3, 4, 6}, []int64{2, 2, 2, 2, 5}, true},
		{"the second triangle, Up above", ringed, []int64{1, 2, 3, 4, 7}, []int64{2, 2, 2, 2, 5}, false},
		{"the second triangle, Down above", ringed, []int64{1, 2, 3, 4, 6}, []int64{2, 2, 2, 2, 6}, false},
		{"not chordal", hier(upTo(3), edge(0, 1), edge(0, 2)), []int64{1, 1}, []int64{1, 1}, false},
		{"edges fall", hier(upTo(3), edge(1, 2), edge(0, 2)), []int64{1, 1}, []int64{1, 1}, false},
		{"an edge twice", hier(upTo(3), edge(0, 1), edge(0, 1)), []int64{1, 1}, []int64{1, 1}, false},
		{"an edge turned", hier(upTo(3), edge(1, 0)), []int64{1}, []int64{1}, false},
	}
	for _, c := range cases {
		if got := impl.MetricOk(c.h, metric(c.up, c.down)); got != c.want {
			t.Errorf("%s: %v", c.name, got)
		}
		if got := metricRightByWalk(c.h, metric(c.up, c.down)); got != c.want {
			t.Errorf("%s: by walk %v", c.name, got)
		}
	}
}

func TestMetricOkOfAllSmallMetrics(t *testing.T) {
	h := hier(upTo(3), allEdges(3)...)
	steps := []int64{-1, 0, 1, 2, impl.Far - 1, impl.Far, impl.Far + 1}
	count := 1
	for range 6 {
		count *= len(steps)
	}
	for number := range count {
		weights := make([]int64, 6)
		for i, rest := 0, number; i < 6; i, rest = i+1, rest/len(steps) {
			weights[i] = steps[rest%len(steps)]
		}
		m := metric(weights[:3], weights[3:])
		if got, want := impl.MetricOk(h, m), metricRightByWalk(h, m); got != want {
			t.Fatalf("%v: %v", m, got)
		}
	}
}

func TestMetricOkWithOneWeightChanged(t *testing.T) {
	n := numbersFrom(57)
	for name, g := range someSmallMaps(&n) {
		for by, order := range someOrders(&n, g) {
			h := hierBy(g, order)
			m := impl.Customize(g, h)
			for i := range h.Edges {
				for _, weight := range []int64{math.MinInt64, -1, 0, m.Up[i] - 1, m.Up[i] + 1, m.Down[i] - 1, m.Down[i] + 1, impl.Far, impl.Far + 1, math.MaxInt64} {
					for _, back := range []bool{false, true} {
						x := cloneMetric(m)
						if back {
							x.Down[i] = weight
						} else {
							x.Up[i] = weight
						}
						if got, want := impl.MetricOk(h, x), weightsRightByWalk(h.Edges, x); got != want {
							t.Fatalf("%s, %s: edge %d, %v, changed to %d (back: %v): %v", name, by, i, h.Edges[i], weight, back, got)
						}
					}
				}
			}
		}
	}
}

func TestMetricOkCountsWeights(t *testing.T) {
	n := numbersFrom(58)
	for name, g := range someSmallMaps(&n) {
		h := impl.NewHier(g)
		right := impl.Customize(g, h)
		for _, up := range []int{-1, 0, 1, 1000} {
			for _, down := range []int{-1, 0, 1, 1000} {
				m := metric(resized(right.Up, up), resized(right.Down, down))
				want := len(m.Up) == len(h.Edges) && len(m.Down) == len(h.Edges)
				if got := impl.MetricOk(h, m); got != want {
					t.Fatalf("%s: %d Up and %d Down of %d edges: %v", name, len(m.Up), len(m.Down), len(h.Edges), got)
				}
			}
		}
		if got := impl.MetricOk(h, impl.Metric{}); got != (len(h.Edges) == 0) {
			t.Fatalf("%s: no weights: %v", name, got)
		}
	}
}

// resized has so many weights more, or fewer where there are some.
func resized(list []int64, more int) []int64 {
	if more < 0 {
		return slices.Clone(list[:max(0, len(list)+more)])
	}
	return append(slices.Clone(list), make([]int64, more)...)
}

func TestMetricOkAsksHowLongTheOrderIsAlone(t *testing.T) {
	m := metric([]int64{1, 3, 4}, []int64{1, 1, 1})
	for _, order := range [][]int64{{0, 1, 2}, {2, 0, 1}, {0, 0, 0}, {-1, 7, 1 << 40}} {
		if !impl.MetricOk(hier(order, allEdges(3)...), m) {
			t.Errorf("by the order %v it is refused", order)
		}
	}
	for _, count := range []int64{0, 1, 2, impl.MaxPlaces + 1, 1000} {
		if impl.MetricOk(hier(upTo(count), allEdges(3)...), m) {
			t.Errorf("by an order of %d places it is accepted", count)
		}
	}
	for _, count := range []int64{4, impl.MaxPlaces} {
		if !impl.MetricOk(hier(upTo(count), allEdges(3)...), m) {
			t.Errorf("by an order of %d places it is refused", count)
		}
	}
}

func TestMetricOkOfWrongEdges(t *testing.T) {
	for _, places := range []int64{2, 3, 6, impl.MaxPlaces} {
		right := allEdges(places)
		for at := range len(right) + 1 {
			for _, x := range wrongEdges(places) {
				h := hier(upTo(places), slices.Insert(slices.Clone(right), at, x)...)
				weights := make([]int64, len(h.Edges))
				if impl.MetricOk(h, metric(weights, weights)) {
					t.Fatalf("%d places, with the edge %v at %d: accepted", places, x, at)
				}
			}
		}
		for i, x := range right {
			h := hier(upTo(places), slices.Delete(slices.Clone(right), i, i+1)...)
			weights := make([]int64, len(h.Edges))
			if got := impl.MetricOk(h, metric(weights, weights)); got != (x.Low == 0) {
				t.Fatalf("%d places, without the edge %v: %v", places, x, got)
			}
		}
	}
}

// newWeights are some of a map's arcs, some more than once, weighed anew.
func newWeights(n *numbersFrom, g impl.Graph, count int64) []impl.Arc {
	var arcs []impl.Arc
	for range count {
		if len(g.Arcs) > 0 {
			x := g.Arcs[n.below(int64(len(g.Arcs)))]
			x.Weight = 1 + n.below([]int64{1, 5, 100, impl.MaxWeight}[n.below(4)])
			arcs = append(arcs, x)
		}
	}
	return arcs
}

// checkRecustomize asks that what comes is the map as it is weighed then, and its metric.
func checkRecustomize(t *testing.T, name string, g impl.Graph, h impl.Hier, m impl.Metric, arcs []impl.Arc) (impl.Graph, impl.Metric) {
	t.Helper()
	x, n, is := impl.Recustomize(g, h, m, arcs)
	want := impl.Graph{Places: g.Places, Arcs: slices.Clone(g.Arcs)}
	for _, a := range arcs {
		for i, b := range want.Arcs {
			if a.From == b.From && a.To == b.To {
				want.Arcs[i].Weight = a.Weight
			}
		}
	}
	if !is || !sameGraph(x, want) {
		t.Fatalf("%s: %v weighed by %v: %v %v, not %v", name, g, arcs, x, is, want)
	}
	if by := metricByWays(want, h); !sameMetric(n, by) || !sameMetric(n, impl.Customize(want, h)) || !impl.MetricOk(h, n) {
		t.Fatalf("%s: %v weighed by %v, by %v: the metric %v, not %v", name, g, arcs, h, n, by)
	}
	return x, n
}

func TestRecustomizeToTheLetter(t *testing.T) {
	const far = impl.Far
	g := graph(3, arc(0, 1, 2), arc(0, 2, 3), arc(1, 0, 4))
	h := hierBy(g, upTo(3))
	m := metric([]int64{2, 3, 7}, []int64{4, far, far})
	cases := []struct {
		name string
		arcs []impl.Arc
		up   []int64
		down []int64
	}{
		{"none", nil, m.Up, m.Down},
		{"as it is", []impl.Arc{arc(0, 2, 3)}, m.Up, m.Down},
		{"less", []impl.Arc{arc(1, 0, 1)}, []int64{2, 3, 4}, []int64{1, far, far}},
		{"more", []impl.Arc{arc(1, 0, 9)}, []int64{2, 3, 12}, []int64{9, far, far}},
		{"the greatest", []impl.Arc{arc(0, 2, impl.MaxWeight)}, []int64{2, 1000000, 1000004}, []int64{4, far, far}},
		{"all", []impl.Arc{arc(1, 0, 30), arc(0, 2, 20), arc(0, 1, 10)}, []int64{10, 20, 50}, []int64{30, far, far}},
		{"twice: the last", []impl.Arc{arc(1, 0, 9), arc(1, 0, 1)}, []int64{2, 3, 4}, []int64{1, far, far}},
		{"twice: the last is more", []impl.Arc{arc(1, 0, 1), arc(0, 1, 5), arc(1, 0, 9)}, []int64{5, 3, 12}, []int64{9, far, far}},
	}
	for _, c := range cases {
		if _, n := checkRecustomize(t, c.name, g, h, m, c.arcs); !sameMetric(n, metric(c.up, c.down)) {
			t.Errorf("%s: %v, not %v %v", c.name, n, c.up, c.down)
		}
	}
}

func TestRecustomizeWhateverWasThereAhead(t *testing.T) {
	n := numbersFrom(59)
	for name, g := range orderGraphs() {
		for by, order := range someOrders(&n, g) {
			h := hierBy(g, order)
			x, m := g, impl.Customize(g, h)
			for _, count := range []int64{0, 1, 1, 3, 12} {
				x, m = checkRecustomize(t, name+", "+by, x, h, m, newWeights(&n, g, count))
			}
			// From any weights to those of the beginning: its metric comes again.
			if _, back := checkRecustomize(t, name+", "+by, x, h, m, g.Arcs); !sameMetric(back, impl.Customize(g, h)) {
				t.Fatalf("%s, %s: %v is not what the map had", name, by, back)
			}
		}
	}
}

func TestRecustomizeFromTheGreatestToTheLeast(t *testing.T) {
	n := numbersFrom(60)
	for name, g := range someSmallMaps(&n) {
		for by, order := range someOrders(&n, g) {
			h := hierBy(g, order)
			least, most := allWeighed(g, 1), allWeighed(g, impl.MaxWeight)
			low, high := impl.Customize(least, h), impl.Customize(most, h)
			if _, m := checkRecustomize(t, name+", "+by, most, h, high, least.Arcs); !sameMetric(m, low) {
				t.Fatalf("%s, %s: made less: %v, not %v", name, by, m, low)
			}
			if _, m := checkRecustomize(t, name+", "+by, least, h, low, most.Arcs); !sameMetric(m, high) {
				t.Fatalf("%s, %s: made more: %v, not %v", name, by, m, high)
			}
		}
	}
}

func refuseRecustomize(t *testing.T, name string, g impl.Graph, h impl.Hier, m impl.Metric, arcs []impl.Arc) {
	t.Helper()
	if x, n, is := impl.Recustomize(g, h, m, arcs); is || !isZeroGraph(x) || !isZeroMetric(n) {
		t.Fatalf("%s: %v by %v with %v is weighed by %v: %v %v %v", name, g, h, m, arcs, x, n, is)
	}
}

func TestRecustomizeRefusesArcs(t *testing.T) {
	n := numbersFrom(61)
	for name, g := range someSmallMaps(&n) {
		h := impl.NewHier(g)
		m := impl.Customize(g, h)
		wrong := []impl.Arc{arc(0, 0, 5), arc(-1, 0, 5), arc(0, -1, 5), arc(0, g.Places, 5), arc(g.Places, 0, 5), arc(math.MinInt64, math.MaxInt64, 5)}
		for from := range g.Places {
			for to := range g.Places {
				if weightByWalk(g, from, to) == impl.Far {
					wrong = append(wrong, arc(from, to, 5))
				}
			}
		}
		for _, x := range g.Arcs {
			for _, weight := range []int64{0, -1, impl.MaxWeight + 1, impl.Far, math.MinInt64, math.MaxInt64} {
				wrong = append(wrong, arc(x.From, x.To, weight))
			}
		}
		for _, x := range wrong {
			refuseRecustomize(t, name, g, h, m, []impl.Arc{x})
			refuseRecustomize(t, name, g, h, m, append([]impl.Arc{x}, g.Arcs...))
			refuseRecustomize(t, name, g, h, m, append(slices.Clone(g.Arcs), x))
		}
	}
}

func TestRecustomizeRefusesOtherMetrics(t *testing.T) {
	n := numbersFrom(62)
	for name, g := range someSmallMaps(&n) {
		for by, order := range someOrders(&n, g) {
			h := hierBy(g, order)
			m := impl.Customize(g, h)
			others := []impl.Metric{
				{}, {Up: m.Up}, {Down: m.Down}, metric(m.Down, m.Up), metric(resized(m.Up, 1), m.Down), metric(m.Up, resized(m.Down, 1)),
				metric(resized(m.Up, 1), resized(m.Down, 1)), metric(resized(m.Up, -1), m.Down), metric(m.Up, resized(m.Down, -1)), metric(resized(m.Up, -1), resized(m.Down, -1)),
				metric(make([]int64, len(m.Up)), make([]int64, len(m.Down))), impl.Customize(allWeighed(g, 777), h),
			}
			for i := range h.Edges {
				// A weight that is less leaves many a metric right, but it is not this map's.
				for _, more := range []int64{-1, 1} {
					up, down := cloneMetric(m), cloneMetric(m)
					up.Up[i] += more
					down.Down[i] += more
					others = append(others, up, down)
				}
			}
			for _, other := range others {
				if sameMetric(other, m) {
					continue
				}
				refuseRecustomize(t, name+", "+by, g, h, other, nil)
				refuseRecustomize(t, name+", "+by, g, h, other, g.Arcs)
			}
		}
	}
}

func TestRecustomizeRefusesTheMetricThatWouldCome(t *testing.T) {
	g := graph(3, arc(0, 1, 2), arc(0, 2, 3), arc(1, 0, 4))
	h := impl.NewHier(g)
	arcs := []impl.Arc{arc(1, 0, 1)}
	weighed, _ := impl.Reweigh(g, arcs)
	refuseRecustomize(t, "weighed ahead", g, h, impl.Customize(weighed, h), arcs)
	refuseRecustomize(t, "the map weighed, not the metric", weighed, h, impl.Customize(g, h), nil)
}

// watchedMetric watches all the lists that the functions of the chapter are given.
type watchedMetric struct {
	g     impl.Graph
	h     impl.Hier
	m     impl.Metric
	arcs  watched[impl.Arc]
	order watched[int64]
	edges watched[impl.Edge]
	up    watched[int64]
	down  watched[int64]
	news  watched[impl.Arc]
}

func watchMetric(g impl.Graph, h impl.Hier, m impl.Metric, news []impl.Arc) watchedMetric {
	w := watchedMetric{
		arcs: watch(g.Arcs, markedArc), order: watch(h.Order, markedPlace), edges: watch(h.Edges, markedEdge),
		up: watch(m.Up, markedPlace), down: watch(m.Down, markedPlace), news: watch(news, markedArc),
	}
	w.g = impl.Graph{Places: g.Places, Arcs: w.arcs.list}
	w.h = impl.Hier{Order: w.order.list, Edges: w.edges.list}
	w.m = metric(w.up.list, w.down.list)
	return w
}

func (w watchedMetric) check(t *testing.T, name string) {
	t.Helper()
	w.arcs.check(t, name)
	w.order.check(t, name)
	w.edges.check(t, name)
	w.up.check(t, name)
	w.down.check(t, name)
	w.news.check(t, name)
}

func (w watchedMetric) overwrite() {
	overwrite(w.arcs.whole, arc(-4, -5, -6))
	overwrite(w.order.whole, -7)
	overwrite(w.edges.whole, edge(-8, -9))
	overwrite(w.up.whole, -10)
	overwrite(w.down.whole, -11)
	overwrite(w.news.whole, arc(-12, -13, -14))
}

func TestMetricArgumentsStay(t *testing.T) {
	n := numbersFrom(63)
	graphs := orderGraphs()
	for name, g := range wrongGraphs() {
		graphs["wrong: "+name] = g
	}
	for name, g := range graphs {
		count := max(1, min(g.Places, impl.MaxPlaces))
		hiers := []impl.Hier{{}, impl.NewHier(g), hier(upTo(count), allEdges(count)...), hier(upTo(count)), hier(falling(count), impl.Fill(g, falling(count))...), hier(falling(count), edge(0, 0), edge(-1, 1))}
		for _, h := range hiers {
			weights := make([]int64, len(h.Edges))
			for _, m := range []impl.Metric{{}, impl.Customize(g, h), metric(weights, weights), metric([]int64{-1}, []int64{impl.Far + 1})} {
				w := watchMetric(g, h, m, append(newWeights(&n, g, 5), arc(0, 1, n.below(3))))
				impl.NewHier(w.g)
				impl.HierOk(w.g, w.h)
				impl.Customize(w.g, w.h)
				impl.MetricOk(w.h, w.m)
				impl.Recustomize(w.g, w.h, w.m, w.news.list)
				impl.Recustomize(w.g, w.h, w.m, w.arcs.list)
				w.check(t, name)
			}
		}
	}
}

func TestHierAnswersAreNew(t *testing.T) {
	for name, g := range orderGraphs() {
		arcs := watch(g.Arcs, markedArc)
		x := impl.Graph{Places: g.Places, Arcs: arcs.list}
		first, second := impl.NewHier(x), impl.NewHier(x)
		kept := cloneHier(second)
		overwrite(first.Order, markedPlace)
		overwrite(first.Edges, markedEdge)
		arcs.check(t, name)
		if third := impl.NewHier(x); !slices.Equal(second.Order, kept.Order) || !slices.Equal(second.Edges, kept.Edges) || !slices.Equal(third.Order, kept.Order) || !slices.Equal(third.Edges, kept.Edges) {
			t.Fatalf("%s: writing into one answer changed another: %v %v, were %v", name, second, third, kept)
		}
	}
}

func TestMetricAnswersAreNew(t *testing.T) {
	n := numbersFrom(64)
	for name, g := range orderGraphs() {
		h := hierBy(g, shuffled(&n, g.Places))
		m := impl.Customize(g, h)
		for what, news := range map[string][]impl.Arc{"as it is": nil, "weighed by its own": g.Arcs, "weighed": newWeights(&n, g, 4)} {
			w := watchMetric(g, h, m, news)
			first, second := impl.Customize(w.g, w.h), impl.Customize(w.g, w.h)
			x1, m1, _ := impl.Recustomize(w.g, w.h, w.m, w.news.list)
			x2, m2, _ := impl.Recustomize(w.g, w.h, w.m, w.news.list)
			want, weighed := cloneMetric(m1), slices.Clone(x1.Arcs)
			// One list after the other: the next one must not change by it.
			overwrite(first.Up, -1)
			if !slices.Equal(first.Down, m.Down) {
				t.Fatalf("%s, %s: Up and Down of Customize share memory", name, what)
			}
			overwrite(first.Down, -2)
			overwrite(m1.Up, -3)
			if !slices.Equal(m1.Down, want.Down) {
				t.Fatalf("%s, %s: Up and Down of Recustomize share memory", name, what)
			}
			overwrite(m1.Down, -4)
			overwrite(x1.Arcs, arc(-1, -2, -3))
			w.check(t, name+", "+what)
			w.overwrite()
			if !sameMetric(second, m) || !sameMetric(m2, want) || !slices.Equal(x2.Arcs, weighed) {
				t.Fatalf("%s, %s: an answer shares memory with another or with an argument", name, what)
			}
		}
	}
}
