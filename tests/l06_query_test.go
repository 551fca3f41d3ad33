package tests

import (
	"math"
	"slices"
	"testing"

	"loop.example/g00161/impl"
)

// weightsUp are those by which a climb goes.
func weightsUp(m impl.Metric, back bool) []int64 {
	if back {
		return m.Down
	}
	return m.Up
}

// climbByRounds takes the edges for the arcs of a map, and goes over them until none makes anything shorter.
func climbByRounds(h impl.Hier, m impl.Metric, rank int64, back bool) []int64 {
	g := graph(int64(len(h.Order)))
	for i, x := range h.Edges {
		g.Arcs = append(g.Arcs, arc(x.Low, x.High, weightsUp(m, back)[i]))
	}
	return distancesByRounds(g, rank)
}

// leastUp tries each way up from one rank to another.
func leastUp(edges []impl.Edge, weights []int64, from, to int64) int64 {
	if from == to {
		return 0
	}
	least := int64(impl.Far)
	for i, x := range edges {
		if x.Low == from && x.High <= to {
			least = min(least, weights[i]+leastUp(edges, weights, x.High, to))
		}
	}
	return least
}

// askable tells whether edges and weights are as the chapter wants them.
func askable(h impl.Hier, m impl.Metric) bool {
	if !edgesRightByWalk(h.Edges, int64(len(h.Order))) || len(m.Up) != len(h.Edges) || len(m.Down) != len(h.Edges) {
		return false
	}
	for _, weight := range slices.Concat(m.Up, m.Down) {
		if weight < 0 || weight > impl.Far {
			return false
		}
	}
	return true
}

// meetingByWalk gathers all the sums that are not Far, and then looks for the least of them.
func meetingByWalk(there, back []int64) (int64, int64) {
	sums := map[int64][]int64{}
	for rank := range min(len(there), len(back)) {
		if sum := there[rank] + back[rank]; sum < impl.Far {
			sums[sum] = append(sums[sum], int64(rank))
		}
	}
	least := int64(impl.Far)
	for sum := range sums {
		least = min(least, sum)
	}
	if least == impl.Far {
		return -1, impl.Far
	}
	return slices.Min(sums[least]), least
}

// climbs has what each rank climbs to, by rounds; nothing where it is not as told.
func climbs(h impl.Hier, m impl.Metric, back bool) map[int64][]int64 {
	all := map[int64][]int64{}
	if askable(h, m) {
		for rank := range int64(len(h.Order)) {
			all[rank] = climbByRounds(h, m, rank, back)
		}
	}
	return all
}

// checkQuestions holds Climb, Meeting and Distance of any hierarchy and metric, between any two that are asked for, against what they must be.
func checkQuestions(t *testing.T, name string, h impl.Hier, m impl.Metric, asked []int64) {
	t.Helper()
	there, back := climbs(h, m, false), climbs(h, m, true)
	once := eachOnce(h.Order)
	for _, from := range asked {
		if got := impl.Climb(h, m, from, false); !slices.Equal(got, there[from]) {
			t.Fatalf("%s: %v with %v: %d climbs %v, not %v", name, h, m, from, got, there[from])
		}
		if got := impl.Climb(h, m, from, true); !slices.Equal(got, back[from]) {
			t.Fatalf("%s: %v with %v: %d climbs back %v, not %v", name, h, m, from, got, back[from])
		}
		for _, to := range asked {
			if want, _ := meetingByWalk(there[from], back[to]); impl.Meeting(h, m, from, to) != want {
				t.Fatalf("%s: %v with %v: %d and %d meet at %d, not %d", name, h, m, from, to, impl.Meeting(h, m, from, to), want)
			}
			want := int64(impl.Far)
			if a, b := int64(slices.Index(h.Order, from)), int64(slices.Index(h.Order, to)); once {
				_, want = meetingByWalk(there[a], back[b])
			}
			if got := impl.Distance(h, m, from, to); got != want {
				t.Fatalf("%s: %v with %v: from place %d to %d: %d, not %d", name, h, m, from, to, got, want)
			}
		}
	}
}

// refuseQuestions asks that what is not as told gets the fixed answers, whatever is asked for.
func refuseQuestions(t *testing.T, name string, h impl.Hier, m impl.Metric) {
	t.Helper()
	places := int64(len(h.Order))
	asked := []int64{-1, 0, 1, places / 2, places - 1, places, math.MinInt64, math.MaxInt64}
	for _, from := range asked {
		for _, back := range []bool{false, true} {
			if got := impl.Climb(h, m, from, back); len(got) != 0 {
				t.Fatalf("%s: %v with %v: %d climbs %v (back: %v)", name, h, m, from, got, back)
			}
		}
		for _, to := range asked {
			if got := impl.Meeting(h, m, from, to); got != -1 {
				t.Fatalf("%s: %v with %v: %d and %d meet at %d", name, h, m, from, to, got)
			}
			if got := impl.Distance(h, m, from, to); got != impl.Far {
				t.Fatalf("%s: %v with %v: from place %d to %d: %d", name, h, m, from, to, got)
			}
		}
	}
}

// nearPlaces are all places and the first that is none, on each side.
func nearPlaces(places int64) []int64 {
	return append(upTo(places), -1, places)
}

func TestClimbToTheLetter(t *testing.T) {
	const far = impl.Far
	chained := hier(upTo(4), chainEdges(4)...)
	three := hier(upTo(3), allEdges(3)...)
	forked := hier(upTo(4), edge(0, 1), edge(0, 2), edge(1, 3), edge(2, 3))
	cases := []struct {
		name  string
		h     impl.Hier
		up    []int64
		down  []int64
		rank  int64
		there []int64
		back  []int64
	}{
		{"one place", hier(upTo(1)), nil, nil, 0, []int64{0}, []int64{0}},
		{"no edges", hier(upTo(3)), nil, nil, 1, []int64{far, 0, far}, []int64{far, 0, far}},
		{"one edge, from below", hier(upTo(2), edge(0, 1)), []int64{3}, []int64{4}, 0, []int64{0, 3}, []int64{0, 4}},
		{"one edge, from above", hier(upTo(2), edge(0, 1)), []int64{3}, []int64{4}, 1, []int64{far, 0}, []int64{far, 0}},
		{"an order that falls", hier(falling(2), edge(0, 1)), []int64{3}, []int64{4}, 0, []int64{0, 3}, []int64{0, 4}},
		{"a chain, from the first", chained, []int64{1, 10, 100}, []int64{2, 20, 200}, 0, []int64{0, 1, 11, 111}, []int64{0, 2, 22, 222}},
		{"a chain, from the second", chained, []int64{1, 10, 100}, []int64{2, 20, 200}, 1, []int64{far, 0, 10, 110}, []int64{far, 0, 20, 220}},
		{"a chain, from the last", chained, []int64{1, 10, 100}, []int64{2, 20, 200}, 3, []int64{far, far, far, 0}, []int64{far, far, far, 0}},
		{"a chain that is cut", chained, []int64{1, far, 100}, []int64{2, 20, far}, 0, []int64{0, 1, far, far}, []int64{0, 2, 22, far}},
		{"shorter over another", three, []int64{1, 9, 2}, []int64{9, 1, 9}, 0, []int64{0, 1, 3}, []int64{0, 9, 1}},
		{"as long over another", three, []int64{1, 3, 2}, []int64{3, 3, 0}, 0, []int64{0, 1, 3}, []int64{0, 3, 3}},
		{"weights of 0", three, []int64{0, 0, 0}, []int64{0, 0, 0}, 0, []int64{0, 0, 0}, []int64{0, 0, 0}},
		{"weights of Far", three, []int64{far, far, far}, []int64{far, far, far}, 0, []int64{0, far, far}, []int64{0, far, far}},
		{"Far and then 0", three, []int64{far, far, 0}, []int64{0, far, far}, 0, []int64{0, far, far}, []int64{0, 0, far}},
		{"two ways, not chordal", forked, []int64{1, 2, 5, 3}, []int64{1, 2, 3, 3}, 0, []int64{0, 1, 2, 5}, []int64{0, 1, 2, 4}},
		{"just below Far", chained, []int64{far - 1, 0, 1}, []int64{1, far - 2, 0}, 0, []int64{0, far - 1, far - 1, far}, []int64{0, 1, far - 1, far - 1}},
		{"just Far", chained, []int64{far - 1, 1, 0}, []int64{1, far - 1, 0}, 0, []int64{0, far - 1, far, far}, []int64{0, 1, far, far}},
		{"just above Far", chained, []int64{far - 1, 2, 0}, []int64{2, far - 1, 1}, 0, []int64{0, far - 1, far, far}, []int64{0, 2, far, far}},
		{"far above Far", chained, []int64{far - 1, far - 1, far - 1}, []int64{far, far, far}, 0, []int64{0, far - 1, far, far}, []int64{0, far, far, far}},
		{"Far by one way, not by the other", three, []int64{far - 1, 7, 1}, []int64{3, far, far - 4}, 0, []int64{0, far - 1, 7}, []int64{0, 3, far - 1}},
	}
	for _, c := range cases {
		m := metric(c.up, c.down)
		if got := impl.Climb(c.h, m, c.rank, false); !slices.Equal(got, c.there) {
			t.Errorf("%s: %v, not %v", c.name, got, c.there)
		}
		if got := impl.Climb(c.h, m, c.rank, true); !slices.Equal(got, c.back) {
			t.Errorf("%s, back: %v, not %v", c.name, got, c.back)
		}
		checkQuestions(t, c.name, c.h, m, nearPlaces(int64(len(c.h.Order))))
	}
}

func TestMeetingToTheLetter(t *testing.T) {
	const far = impl.Far
	two := hier(upTo(2), edge(0, 1))
	three := hier(upTo(3), allEdges(3)...)
	both := hier(upTo(4), edge(0, 2), edge(0, 3), edge(1, 2), edge(1, 3), edge(2, 3))
	cases := []struct {
		name string
		h    impl.Hier
		up   []int64
		down []int64
		from int64
		to   int64
		want int64
		sum  int64
	}{
		{"one place", hier(upTo(1)), nil, nil, 0, 0, 0, 0},
		{"no edges, alike", hier(upTo(2)), nil, nil, 1, 1, 1, 0},
		{"no edges", hier(upTo(2)), nil, nil, 0, 1, -1, far},
		{"up", two, []int64{3}, []int64{4}, 0, 1, 1, 3},
		{"down", two, []int64{3}, []int64{4}, 1, 0, 1, 4},
		{"alike, the lower", two, []int64{3}, []int64{4}, 0, 0, 0, 0},
		{"alike, the upper", two, []int64{3}, []int64{4}, 1, 1, 1, 0},
		{"alike, all weights 0: the least", three, []int64{0, 0, 0}, []int64{0, 0, 0}, 0, 0, 0, 0},
		{"alike, the second, all weights 0", three, []int64{0, 0, 0}, []int64{0, 0, 0}, 1, 1, 1, 0},
		{"up is Far", two, []int64{far}, []int64{4}, 0, 1, -1, far},
		{"down is Far", two, []int64{3}, []int64{far}, 1, 0, -1, far},
		{"at the lower of two", both, []int64{1, 2, 9, 9, 9}, []int64{9, 9, 1, 2, 9}, 0, 1, 2, 2},
		{"at the upper of two", both, []int64{2, 1, 9, 9, 9}, []int64{9, 9, 2, 1, 9}, 0, 1, 3, 2},
		{"two alike: the least", both, []int64{1, 2, 9, 9, 9}, []int64{9, 9, 2, 1, 9}, 0, 1, 2, 3},
		{"two alike, by other parts", both, []int64{5, 0, 9, 9, 9}, []int64{9, 9, 0, 5, 9}, 0, 1, 2, 5},
		{"the lower is one more", both, []int64{1, 2, 9, 9, 9}, []int64{9, 9, 3, 1, 9}, 0, 1, 3, 3},
		{"back by Down alone", both, []int64{9, 9, 1, 1, 9}, []int64{4, 3, 9, 9, 9}, 1, 0, 3, 4},
		{"only the upper is not Far", both, []int64{far, 7, 9, 9, 9}, []int64{9, 9, 1, 1, far}, 0, 1, 3, 8},
		{"at three alike: itself", three, []int64{0, 0, 0}, []int64{0, 0, 0}, 0, 1, 1, 0},
		{"a sum just below Far", both, []int64{far - 3, far, 0, 0, far}, []int64{0, 0, 2, far, far}, 0, 1, 2, far - 1},
		{"a sum of just Far", both, []int64{far - 2, far, 0, 0, far}, []int64{0, 0, 2, far, far}, 0, 1, -1, far},
		{"a sum just above Far", both, []int64{far - 1, far, 0, 0, far}, []int64{0, 0, 2, far, far}, 0, 1, -1, far},
		{"sums far above Far", both, []int64{far - 1, far - 1, 0, 0, 0}, []int64{0, 0, far - 1, far - 1, 0}, 0, 1, -1, far},
		{"the first sum is Far", both, []int64{far - 2, far - 3, 0, 0, far}, []int64{0, 0, 2, 2, far}, 0, 1, 3, far - 1},
		{"from -1", two, []int64{3}, []int64{4}, -1, 1, -1, far},
		{"to -1", two, []int64{3}, []int64{4}, 1, -1, -1, far},
		{"from 2 of 2", two, []int64{3}, []int64{4}, 2, 1, -1, far},
		{"to 2 of 2", two, []int64{3}, []int64{4}, 1, 2, -1, far},
		{"neither is there", two, []int64{3}, []int64{4}, 5, 5, -1, far},
	}
	for _, c := range cases {
		m := metric(c.up, c.down)
		if got := impl.Meeting(c.h, m, c.from, c.to); got != c.want {
			t.Errorf("%s: %d, not %d", c.name, got, c.want)
		}
		// The order rises: a place is its rank.
		if got := impl.Distance(c.h, m, c.from, c.to); got != c.sum {
			t.Errorf("%s: the distance %d, not %d", c.name, got, c.sum)
		}
		checkQuestions(t, c.name, c.h, m, nearPlaces(int64(len(c.h.Order))))
	}
}

func TestDistanceToTheLetter(t *testing.T) {
	const far = impl.Far
	g := graph(3, arc(0, 1, 2), arc(0, 2, 3), arc(1, 0, 4))
	for _, order := range allOrders(3) {
		h := hierBy(g, order)
		m := impl.Customize(g, h)
		want := [][]int64{{0, 2, 3}, {4, 0, 7}, {far, far, 0}}
		for a := range g.Places {
			for b := range g.Places {
				if got := impl.Distance(h, m, a, b); got != want[a][b] {
					t.Errorf("by %v from %d to %d: %d, not %d", order, a, b, got, want[a][b])
				}
			}
		}
	}
	// Places by their ranks: place 2 is rank 0, place 0 rank 1, place 1 rank 2.
	h := hier([]int64{2, 0, 1}, chainEdges(3)...)
	m := metric([]int64{1, 10}, []int64{100, 1000})
	want := [][]int64{{0, 10, 100}, {1000, 0, 1100}, {1, 11, 0}}
	for a := range int64(3) {
		for b := range int64(3) {
			if got := impl.Distance(h, m, a, b); got != want[a][b] {
				t.Errorf("from %d to %d: %d, not %d", a, b, got, want[a][b])
			}
		}
	}
}

// checkDistances holds promise 6 for one map and one hierarchy.
func checkDistances(t *testing.T, name string, g impl.Graph, h impl.Hier) {
	t.Helper()
	m := impl.Customize(g, h)
	var all [][]int64
	for a := range g.Places {
		all = append(all, distancesByRounds(g, a))
		if plain := impl.Distances(g, a); !slices.Equal(plain, all[a]) {
			t.Fatalf("%s: %v from %d: %v, not %v", name, g, a, plain, all[a])
		}
	}
	for a := range g.Places {
		for b := range g.Places {
			if got := impl.Distance(h, m, a, b); got != all[a][b] {
				t.Fatalf("%s: %v by %v from %d to %d: %d, not %d", name, g, h, a, b, got, all[a][b])
			}
			meeting := impl.Meeting(h, m, int64(slices.Index(h.Order, a)), int64(slices.Index(h.Order, b)))
			if (meeting == -1) != (all[a][b] == impl.Far) {
				t.Fatalf("%s: %v by %v from %d to %d: %d, and they meet at %d", name, g, h, a, b, all[a][b], meeting)
			}
			if meeting == -1 {
				continue
			}
			if over := h.Order[meeting]; all[a][over]+all[over][b] != all[a][b] {
				t.Fatalf("%s: %v by %v from %d to %d: they meet at place %d, which lies on no shortest way", name, g, h, a, b, over)
			}
		}
	}
}

func TestDistanceIsThatOfTheMap(t *testing.T) {
	n := numbersFrom(71)
	for name, g := range orderGraphs() {
		checkDistances(t, name, g, impl.NewHier(g))
		for by, order := range someOrders(&n, g) {
			checkDistances(t, name+", "+by, g, hierBy(g, order))
		}
	}
}

func TestDistanceOfEachKindOfMap(t *testing.T) {
	n := numbersFrom(72)
	maps := someSmallMaps(&n)
	maps["a ring, both"] = roads(7, true, pairsOf(ring(7, 1), false)...)
	maps["a star, both"] = roads(7, true, star(7, 3, true)...)
	maps["whole, arcs in one direction"] = roads(7, false, pickedPairs(7, true, -1)...)
	maps["whole, most"] = fullGraph(10, impl.MaxArcs)
	for name, g := range maps {
		for by, order := range someOrders(&n, g) {
			h := hierBy(g, order)
			for _, weight := range []int64{1, 2, impl.MaxWeight} {
				checkDistances(t, name+", "+by, allWeighed(g, weight), h)
			}
			checkDistances(t, name+", "+by, g, h)
			checkQuestions(t, name+", "+by, h, impl.Customize(g, h), nearPlaces(g.Places))
		}
	}
}

func TestDistanceOfAllSmallMaps(t *testing.T) {
	n := numbersFrom(73)
	for places := int64(1); places <= 4; places++ {
		orders := allOrders(places)
		for bits := range 1 << (places * (places - 1)) {
			g := roads(places, false, pickedPairs(places, false, bits)...)
			for i := range g.Arcs {
				g.Arcs[i].Weight = 1 + n.below(9)
			}
			for _, order := range orders {
				checkDistances(t, "each map", g, impl.Hier{Order: order, Edges: impl.Fill(g, order)})
			}
		}
	}
}

func TestDistanceOfMadeMaps(t *testing.T) {
	n := numbersFrom(74)
	for range 60 {
		g := someGraph(&n, 1+n.below(impl.MaxPlaces), n.below(impl.MaxArcs+1))
		for by, order := range someOrders(&n, g) {
			for i := range g.Arcs {
				g.Arcs[i].Weight = 1 + n.below([]int64{1, 3, 20, impl.MaxWeight}[n.below(4)])
			}
			checkDistances(t, "made, "+by, g, impl.Hier{Order: order, Edges: impl.Fill(g, order)})
		}
	}
}

func TestDistanceOfTheGreatestMaps(t *testing.T) {
	n := numbersFrom(75)
	for _, g := range []impl.Graph{ladder(), ring(impl.MaxPlaces, 5), fullGraph(impl.MaxPlaces, impl.MaxArcs), someGraph(&n, impl.MaxPlaces, impl.MaxArcs)} {
		for by, order := range someOrders(&n, g) {
			h := impl.Hier{Order: order, Edges: impl.Fill(g, order)}
			for _, x := range []impl.Graph{g, allWeighed(g, 1), allWeighed(g, impl.MaxWeight)} {
				checkDistances(t, by, x, h)
			}
		}
	}
	// The longest way there can be, up one side and down the other.
	g := chain(impl.MaxPlaces, impl.MaxWeight)
	h := impl.NewHier(g)
	if got := impl.Distance(h, impl.Customize(g, h), 0, impl.MaxPlaces-1); got != (impl.MaxPlaces-1)*impl.MaxWeight {
		t.Errorf("all along a chain: %d", got)
	}
}

func TestDistanceOfMapsWeighedAnew(t *testing.T) {
	n := numbersFrom(76)
	for name, g := range someSmallMaps(&n) {
		for by, order := range someOrders(&n, g) {
			h := hierBy(g, order)
			x, m := g, impl.Customize(g, h)
			for range 4 {
				x, m, _ = impl.Recustomize(x, h, m, newWeights(&n, g, 3))
				for a := range g.Places {
					for b, want := range distancesByRounds(x, a) {
						if got := impl.Distance(h, m, a, int64(b)); got != want {
							t.Fatalf("%s, %s: %v from %d to %d: %d, not %d", name, by, x, a, b, got, want)
						}
					}
				}
			}
		}
	}
}

func TestClimbTriesEachWayUp(t *testing.T) {
	n := numbersFrom(77)
	for range 300 {
		places := 1 + n.below(8)
		h := hier(shuffled(&n, places), someEdges(&n, places)...)
		m := someMetric(&n, len(h.Edges))
		for rank := range places {
			for _, back := range []bool{false, true} {
				got := impl.Climb(h, m, rank, back)
				if int64(len(got)) != places {
					t.Fatalf("%v with %v: %d climbs %v", h, m, rank, got)
				}
				for to, sum := range got {
					if want := leastUp(h.Edges, weightsUp(m, back), rank, int64(to)); sum != want {
						t.Fatalf("%v with %v: %d climbs %v (back: %v): to %d by each way %d", h, m, rank, got, back, to, want)
					}
				}
			}
		}
	}
}

// someEdges are as Parents wants them, mostly not Chordal.
func someEdges(n *numbersFrom, places int64) []impl.Edge {
	edges := []impl.Edge{}
	some := 1 + n.below(6)
	for _, x := range allEdges(places) {
		if n.below(6) < some {
			edges = append(edges, x)
		}
	}
	return edges
}

// someMetric has weights that are near one another, near 0 and near Far.
func someMetric(n *numbersFrom, count int) impl.Metric {
	m := impl.Metric{}
	for range count {
		m.Up = append(m.Up, someWeight(n))
		m.Down = append(m.Down, someWeight(n))
	}
	return m
}

func someWeight(n *numbersFrom) int64 {
	return []int64{0, n.below(4), n.below(100), impl.Far / 2, impl.Far/2 - 1, impl.Far - n.below(4), impl.Far, n.below(impl.MaxWeight)}[n.below(8)]
}

func TestQuestionsOfMadeMetrics(t *testing.T) {
	n := numbersFrom(78)
	for range 400 {
		places := 1 + n.below(9)
		h := hier(shuffled(&n, places), someEdges(&n, places)...)
		checkQuestions(t, "made", h, someMetric(&n, len(h.Edges)), nearPlaces(places))
	}
	for range 10 {
		h := hier(shuffled(&n, impl.MaxPlaces), someEdges(&n, impl.MaxPlaces)...)
		checkQuestions(t, "made, MaxPlaces", h, someMetric(&n, len(h.Edges)), nearPlaces(impl.MaxPlaces))
	}
}

func TestQuestionsOfAllSmallMetrics(t *testing.T) {
	steps := []int64{0, 1, 2, impl.Far - 1, impl.Far}
	for bits := range 1 << 3 {
		edges := edgeList(pickedPairs(3, true, bits)...)
		count := 1
		for range 2 * len(edges) {
			count *= len(steps)
		}
		for number := range count {
			weights := make([]int64, 2*len(edges))
			for i, rest := 0, number; i < len(weights); i, rest = i+1, rest/len(steps) {
				weights[i] = steps[rest%len(steps)]
			}
			checkQuestions(t, "each metric", hier([]int64{1, 2, 0}, edges...), metric(weights[:len(edges)], weights[len(edges):]), upTo(3))
		}
	}
}

func TestQuestionsOutOfRange(t *testing.T) {
	n := numbersFrom(79)
	for name, g := range someSmallMaps(&n) {
		for by, order := range someOrders(&n, g) {
			h := hierBy(g, order)
			checkQuestions(t, name+", "+by, h, impl.Customize(g, h), append(noPlaces(g.Places), 0, g.Places-1))
		}
	}
}

func TestQuestionsOfWrongEdges(t *testing.T) {
	for _, places := range []int64{2, 3, 6, impl.MaxPlaces} {
		for _, right := range [][]impl.Edge{allEdges(places), chainEdges(places)} {
			for _, at := range []int{0, len(right) / 2, len(right)} {
				wrong := append(wrongEdges(places), right[max(0, at-1)])
				for _, x := range wrong {
					h := hier(upTo(places), slices.Insert(slices.Clone(right), at, x)...)
					weights := make([]int64, len(h.Edges))
					refuseQuestions(t, "wrong edges", h, metric(weights, weights))
				}
			}
		}
	}
	for name, edges := range map[string][]impl.Edge{
		"fall by Low":  {edge(1, 2), edge(0, 2)},
		"fall by High": {edge(0, 2), edge(0, 1)},
		"one twice":    {edge(0, 1), edge(0, 1)},
		"turned":       {edge(1, 0)},
	} {
		weights := make([]int64, len(edges))
		refuseQuestions(t, name, hier(upTo(3), edges...), metric(weights, weights))
	}
}

func TestQuestionsWantNoChordalEdges(t *testing.T) {
	h := hier(upTo(3), edge(0, 1), edge(0, 2))
	m := metric([]int64{1, 2}, []int64{3, 4})
	if impl.Chordal(h.Edges, 3) {
		t.Fatal("these edges should not be chordal")
	}
	if got := impl.Climb(h, m, 0, false); !slices.Equal(got, []int64{0, 1, 2}) {
		t.Errorf("0 climbs %v", got)
	}
	if got := impl.Climb(h, m, 0, true); !slices.Equal(got, []int64{0, 3, 4}) {
		t.Errorf("0 climbs back %v", got)
	}
	// From 1 one would go down to 0 and up to 2: without their edge there is no way up.
	if meeting, sum := impl.Meeting(h, m, 1, 2), impl.Distance(h, m, 1, 2); meeting != -1 || sum != impl.Far {
		t.Errorf("1 and 2 meet at %d, %d", meeting, sum)
	}
	checkQuestions(t, "not chordal", h, m, nearPlaces(3))
	// A metric with triangles that make an edge shorter is no MetricOk, but can be asked.
	h, m = hier(upTo(3), allEdges(3)...), metric([]int64{1, 1, 9}, []int64{1, 1, 9})
	if impl.MetricOk(h, m) || impl.Distance(h, m, 1, 2) != 9 {
		t.Errorf("by a metric with a shorter triangle: %d", impl.Distance(h, m, 1, 2))
	}
}

func TestQuestionsOfWrongOrders(t *testing.T) {
	m := metric([]int64{1, 3, 4}, []int64{1, 1, 1})
	edges := allEdges(3)
	for _, count := range []int64{0, 1, 2, impl.MaxPlaces + 1, 1000} {
		refuseQuestions(t, "so many places", hier(upTo(count), edges...), m)
	}
	for _, count := range []int64{0, impl.MaxPlaces + 1, 100000} {
		refuseQuestions(t, "so many places, no edges", hier(upTo(count)), impl.Metric{})
	}
	for _, count := range []int64{3, 4, impl.MaxPlaces} {
		h := hier(upTo(count), edges...)
		checkQuestions(t, "so many places", h, m, nearPlaces(count))
		if got := impl.Distance(h, m, 0, 2); got != 3 {
			t.Errorf("%d places: from 0 to 2: %d", count, got)
		}
	}
	for _, order := range [][]int64{{0, 0, 0}, {0, 0, 1}, {0, 1, 1}, {1, 2, 3}, {-1, 0, 1}, {0, 1, -1}, {0, 1, 3}, {5, 7, 9}, {math.MinInt64, 0, math.MaxInt64}, {1 << 32, 1, 2}} {
		h := hier(order, edges...)
		asked := append(slices.Clone(order), nearPlaces(3)...)
		checkQuestions(t, "not each place once", h, m, asked)
		for _, a := range asked {
			for _, b := range asked {
				if got := impl.Distance(h, m, a, b); got != impl.Far {
					t.Fatalf("by the order %v from %d to %d: %d", order, a, b, got)
				}
			}
		}
		// A climb goes by ranks: which places they are does not matter to it.
		if got := impl.Climb(h, m, 0, false); !slices.Equal(got, []int64{0, 1, 3}) || impl.Meeting(h, m, 0, 1) != 1 {
			t.Errorf("by the order %v: 0 climbs %v", order, got)
		}
	}
}

func TestQuestionsCountWeights(t *testing.T) {
	n := numbersFrom(80)
	for name, g := range someSmallMaps(&n) {
		h := impl.NewHier(g)
		right := impl.Customize(g, h)
		for _, up := range []int{-1, 0, 1, 1000} {
			for _, down := range []int{-1, 0, 1, 1000} {
				m := metric(resized(right.Up, up), resized(right.Down, down))
				if len(m.Up) != len(h.Edges) || len(m.Down) != len(h.Edges) {
					refuseQuestions(t, name, h, m)
				} else {
					checkQuestions(t, name, h, m, nearPlaces(g.Places))
				}
			}
		}
		if len(h.Edges) > 0 {
			refuseQuestions(t, name, h, impl.Metric{})
			refuseQuestions(t, name, h, impl.Metric{Up: right.Up})
			refuseQuestions(t, name, h, impl.Metric{Down: right.Down})
		}
	}
}

func TestQuestionsOfWrongWeights(t *testing.T) {
	n := numbersFrom(81)
	for name, g := range someSmallMaps(&n) {
		h := impl.NewHier(g)
		right := impl.Customize(g, h)
		for i := range h.Edges {
			for _, back := range []bool{false, true} {
				for _, weight := range []int64{-1, impl.Far + 1, math.MinInt64, math.MaxInt64, -impl.Far} {
					m := cloneMetric(right)
					weightsUp(m, back)[i] = weight
					refuseQuestions(t, name, h, m)
				}
				for _, weight := range []int64{0, impl.Far - 1, impl.Far} {
					m := cloneMetric(right)
					weightsUp(m, back)[i] = weight
					checkQuestions(t, name, h, m, []int64{0, h.Edges[i].Low, h.Edges[i].High, g.Places - 1})
				}
			}
		}
	}
}

func TestQuestionArgumentsStay(t *testing.T) {
	n := numbersFrom(82)
	for name, g := range orderGraphs() {
		hiers := []impl.Hier{{}, impl.NewHier(g), hier(upTo(g.Places), allEdges(g.Places)...), hier(upTo(g.Places)), hier(falling(g.Places), edge(0, 0), edge(-1, 1)), hier(upTo(impl.MaxPlaces + 1))}
		for _, h := range hiers {
			for _, m := range []impl.Metric{{}, impl.Customize(g, h), someMetric(&n, len(h.Edges)), metric([]int64{-1}, []int64{impl.Far + 1})} {
				w := watchMetric(g, h, m, nil)
				for _, a := range []int64{-1, 0, g.Places / 2, g.Places - 1, g.Places} {
					impl.Climb(w.h, w.m, a, false)
					impl.Climb(w.h, w.m, a, true)
					for _, b := range []int64{-1, 0, g.Places - 1, g.Places} {
						impl.Meeting(w.h, w.m, a, b)
						impl.Distance(w.h, w.m, a, b)
					}
				}
				w.check(t, name)
			}
		}
	}
}

func TestClimbAnswersAreNew(t *testing.T) {
	n := numbersFrom(83)
	for name, g := range orderGraphs() {
		h := impl.NewHier(g)
		for _, m := range []impl.Metric{impl.Customize(g, h), someMetric(&n, len(h.Edges))} {
			for _, back := range []bool{false, true} {
				for _, rank := range []int64{0, g.Places / 2, g.Places - 1} {
					w := watchMetric(g, h, m, nil)
					first, second := impl.Climb(w.h, w.m, rank, back), impl.Climb(w.h, w.m, rank, back)
					kept := slices.Clone(second)
					overwrite(first, markedPlace)
					w.check(t, name)
					if third := impl.Climb(w.h, w.m, rank, back); !slices.Equal(second, kept) || !slices.Equal(third, kept) {
						t.Fatalf("%s: writing into one answer changed another: %v %v, were %v", name, second, third, kept)
					}
					w.overwrite()
					if !slices.Equal(second, kept) {
						t.Fatalf("%s: an answer shares memory with an argument: %v, was %v", name, second, kept)
					}
				}
			}
		}
	}
}
