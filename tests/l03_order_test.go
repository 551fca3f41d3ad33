package tests

import (
	"math"
	"slices"
	"testing"

	"loop.example/g00161/impl"
)

// roads makes a map of these pairs of places, in both directions where both is set.
func roads(places int64, both bool, pairs ...[2]int64) impl.Graph {
	g := graph(places)
	for from := range places {
		for to := range places {
			if slices.Contains(pairs, [2]int64{from, to}) || both && slices.Contains(pairs, [2]int64{to, from}) {
				g.Arcs = append(g.Arcs, arc(from, to, 1+from*to))
			}
		}
	}
	return g
}

// star has pairs from one place to each other, or from each other to it.
func star(places, middle int64, outward bool) [][2]int64 {
	var pairs [][2]int64
	for place := range places {
		if place != middle && outward {
			pairs = append(pairs, [2]int64{middle, place})
		} else if place != middle {
			pairs = append(pairs, [2]int64{place, middle})
		}
	}
	return pairs
}

// pairsOf has a map's arcs, turned round where turned is set.
func pairsOf(g impl.Graph, turned bool) [][2]int64 {
	var pairs [][2]int64
	for _, x := range g.Arcs {
		if turned {
			x.From, x.To = x.To, x.From
		}
		pairs = append(pairs, [2]int64{x.From, x.To})
	}
	return pairs
}

func orderGraphs() map[string]impl.Graph {
	all := plainGraphs()
	for name, g := range plainGraphs() {
		all[name+", turned round"] = roads(g.Places, false, pairsOf(g, true)...)
		if 2*len(g.Arcs) <= impl.MaxArcs {
			all[name+", in both directions"] = roads(g.Places, true, pairsOf(g, false)...)
		}
	}
	for _, middle := range []int64{0, 11, impl.MaxPlaces - 1} {
		name := "a star around " + showByHand(graph(middle))
		all[name+", outward"] = roads(impl.MaxPlaces, false, star(impl.MaxPlaces, middle, true)...)
		all[name+", inward"] = roads(impl.MaxPlaces, false, star(impl.MaxPlaces, middle, false)...)
		all[name+", both"] = roads(impl.MaxPlaces, true, star(impl.MaxPlaces, middle, true)...)
	}
	return all
}

// upTo has the numbers below count, rising.
func upTo(count int64) []int64 {
	list := make([]int64, count)
	for i := range list {
		list[i] = int64(i)
	}
	return list
}

// neighboursThen tells by another way than taking away: two places are neighbours then if a way of arcs, whatever their direction, leads from one to the other over places that are gone alone.
func neighboursThen(g impl.Graph, gone []int64, place int64) []int64 {
	seen := []int64{place}
	var neighbours []int64
	for i := 0; i < len(seen); i++ {
		if i > 0 && !slices.Contains(gone, seen[i]) {
			neighbours = append(neighbours, seen[i])
			continue
		}
		for _, x := range g.Arcs {
			for _, step := range [][2]int64{{x.From, x.To}, {x.To, x.From}} {
				if step[0] == seen[i] && !slices.Contains(seen, step[1]) {
					seen = append(seen, step[1])
				}
			}
		}
	}
	return neighbours
}

func orderByWays(g impl.Graph) []int64 {
	var gone []int64
	for range g.Places {
		best, fewest := int64(-1), int64(math.MaxInt64)
		for place := range g.Places {
			if slices.Contains(gone, place) {
				continue
			}
			if count := int64(len(neighboursThen(g, gone, place))); count < fewest {
				best, fewest = place, count
			}
		}
		gone = append(gone, best)
	}
	return gone
}

// checkOrder holds promise 3 for one map.
func checkOrder(t *testing.T, name string, g impl.Graph) {
	t.Helper()
	order := impl.Order(g)
	if want := orderByWays(g); !slices.Equal(order, want) {
		t.Fatalf("%s: %v: the order is %v, not %v", name, g, order, want)
	}
	if sorted := slices.Sorted(slices.Values(order)); !slices.Equal(sorted, upTo(g.Places)) {
		t.Fatalf("%s: the order %v has not each place once", name, order)
	}
	if !impl.OrderOk(g, order) {
		t.Fatalf("%s: the order %v is refused", name, order)
	}
	ranks := impl.Ranks(order)
	if len(ranks) != len(order) {
		t.Fatalf("%s: the order %v has the ranks %v", name, order, ranks)
	}
	for number, place := range order {
		if ranks[place] != int64(number) {
			t.Fatalf("%s: the order %v has the ranks %v", name, order, ranks)
		}
	}
	if back := impl.Ranks(ranks); !slices.Equal(back, order) {
		t.Fatalf("%s: the ranks %v of the order %v have the ranks %v", name, ranks, order, back)
	}
}

func TestOrderToTheLetter(t *testing.T) {
	cube := [][2]int64{{0, 1}, {0, 2}, {0, 4}, {1, 3}, {1, 5}, {2, 3}, {2, 6}, {3, 7}, {4, 5}, {4, 6}, {5, 7}, {6, 7}}
	cases := []struct {
		name  string
		g     impl.Graph
		order []int64
	}{
		{"one place", graph(1), []int64{0}},
		{"no arcs", graph(3), []int64{0, 1, 2}},
		{"no arcs, MaxPlaces", graph(impl.MaxPlaces), upTo(impl.MaxPlaces)},
		{"one arc", graph(2, arc(0, 1, 5)), []int64{0, 1}},
		{"one arc back", graph(2, arc(1, 0, 5)), []int64{0, 1}},
		{"both ways", graph(2, arc(0, 1, 5), arc(1, 0, 5)), []int64{0, 1}},
		{"without neighbours, ahead of those that have some", graph(4, arc(0, 1, 5), arc(1, 3, 5)), []int64{2, 0, 1, 3}},
		{"a chain", chain(4, 7), []int64{0, 1, 2, 3}},
		{"a chain backward", roads(3, false, [2]int64{1, 0}, [2]int64{2, 1}), []int64{0, 1, 2}},
		{"a chain from its middle", roads(5, false, [2]int64{1, 2}, [2]int64{2, 0}, [2]int64{0, 3}, [2]int64{3, 4}), []int64{1, 2, 0, 3, 4}},
		{"both directions are one neighbour", roads(4, false, [2]int64{0, 1}, [2]int64{1, 0}, [2]int64{1, 2}, [2]int64{2, 3}), []int64{0, 1, 2, 3}},
		{"a ring", ring(5, 7), []int64{0, 1, 2, 3, 4}},
		{"a ring of most", ring(impl.MaxPlaces, 7), upTo(impl.MaxPlaces)},
		{"all to all", fullGraph(6, impl.MaxArcs), upTo(6)},
		{"a star around the first", roads(5, false, star(5, 0, true)...), []int64{1, 2, 3, 0, 4}},
		{"a star to the first", roads(5, false, star(5, 0, false)...), []int64{1, 2, 3, 0, 4}},
		{"a star around the first, both ways", roads(5, true, star(5, 0, true)...), []int64{1, 2, 3, 0, 4}},
		{"a star around the middle", roads(5, false, star(5, 2, true)...), []int64{0, 1, 3, 2, 4}},
		{"a star to the last", roads(5, false, star(5, 4, false)...), []int64{0, 1, 2, 3, 4}},
		// Taking 0 away joins 1, 2 and 4, which have 4 neighbours each then; 3 still has 3.
		{"a cube", roads(8, false, cube...), []int64{0, 3, 5, 1, 2, 4, 6, 7}},
		{"a cube, both ways", roads(8, true, cube...), []int64{0, 3, 5, 1, 2, 4, 6, 7}},
	}
	for _, c := range cases {
		if got := impl.Order(c.g); !slices.Equal(got, c.order) {
			t.Errorf("%s: %v, not %v", c.name, got, c.order)
		}
	}
}

func TestOrderHasEachPlaceOnce(t *testing.T) {
	for name, g := range orderGraphs() {
		checkOrder(t, name, g)
	}
}

// pickedPairs are those of all pairs of unlike places whose bit is set.
func pickedPairs(places int64, oneWay bool, bits int) [][2]int64 {
	var pairs [][2]int64
	for from := range places {
		for to := range places {
			if from == to || oneWay && from > to {
				continue
			}
			if bits&1 == 1 {
				pairs = append(pairs, [2]int64{from, to})
			}
			bits >>= 1
		}
	}
	return pairs
}

func TestOrderOfAllSmallMaps(t *testing.T) {
	for places := int64(1); places <= 4; places++ {
		for bits := range 1 << (places * (places - 1)) {
			checkOrder(t, "each map", roads(places, false, pickedPairs(places, false, bits)...))
		}
	}
	for bits := range 1 << 10 {
		checkOrder(t, "each map in both directions", roads(5, true, pickedPairs(5, true, bits)...))
	}
}

func TestOrderOfMadeMaps(t *testing.T) {
	n := numbersFrom(21)
	for range 300 {
		checkOrder(t, "made", someGraph(&n, 1+n.below(impl.MaxPlaces), n.below(impl.MaxArcs+1)))
	}
	for range 60 {
		checkOrder(t, "made, MaxPlaces", someGraph(&n, impl.MaxPlaces, impl.MaxArcs))
	}
}

func TestOrderHangsOnNeighboursAlone(t *testing.T) {
	for name, g := range orderGraphs() {
		order := impl.Order(g)
		for _, weight := range []int64{1, impl.MaxWeight} {
			if got := impl.Order(allWeighed(g, weight)); !slices.Equal(got, order) {
				t.Fatalf("%s: at Weight %d the order is %v, not %v", name, weight, got, order)
			}
		}
		if got := impl.Order(roads(g.Places, false, pairsOf(g, true)...)); !slices.Equal(got, order) {
			t.Fatalf("%s: turned round the order is %v, not %v", name, got, order)
		}
	}
}

func TestOrderRefusesWrongMaps(t *testing.T) {
	for name, g := range wrongGraphs() {
		if got := impl.Order(g); len(got) != 0 {
			t.Errorf("%s: a wrong map has the order %v", name, got)
		}
		lists := [][]int64{nil, {}, {0}, upTo(impl.MaxPlaces), upTo(impl.MaxPlaces + 1)}
		if g.Places >= 0 && g.Places <= impl.MaxPlaces+1 {
			lists = append(lists, upTo(g.Places))
		}
		for _, list := range lists {
			if impl.OrderOk(g, list) {
				t.Errorf("%s: %v is an order of a wrong map", name, list)
			}
		}
	}
}

// eachOnce tells by sorting whether a list has each number below its length once.
func eachOnce(list []int64) bool {
	return slices.Equal(slices.Sorted(slices.Values(list)), upTo(int64(len(list))))
}

// checkList holds OrderOk and Ranks of any list against what they must be.
func checkList(t *testing.T, list []int64) {
	t.Helper()
	once := eachOnce(list)
	for places := int64(1); places <= impl.MaxPlaces; places++ {
		if got, want := impl.OrderOk(graph(places), list), once && int64(len(list)) == places; got != want {
			t.Fatalf("%v is an order of %d places: %v", list, places, got)
		}
	}
	var want []int64
	if once && len(list) <= impl.MaxPlaces {
		for place := range list {
			want = append(want, int64(slices.Index(list, int64(place))))
		}
	}
	if got := impl.Ranks(list); !slices.Equal(got, want) {
		t.Fatalf("%v has the ranks %v, not %v", list, got, want)
	}
}

func TestAllSmallLists(t *testing.T) {
	lists := [][]int64{{}}
	for length := 0; length <= 5; length++ {
		var longer [][]int64
		for _, list := range lists {
			checkList(t, list)
			for place := int64(-1); place <= 5; place++ {
				longer = append(longer, append(slices.Clone(list), place))
			}
		}
		lists = longer
	}
}

// shuffled has the numbers below count in an order that is made.
func shuffled(n *numbersFrom, count int64) []int64 {
	list := upTo(count)
	for i := count - 1; i > 0; i-- {
		k := n.below(i + 1)
		list[i], list[k] = list[k], list[i]
	}
	return list
}

func TestOrderOkOfAnyRightList(t *testing.T) {
	n := numbersFrom(22)
	for name, g := range rightGraphs() {
		backward := upTo(g.Places)
		slices.Reverse(backward)
		for _, list := range [][]int64{upTo(g.Places), backward, shuffled(&n, g.Places)} {
			if !impl.OrderOk(g, list) {
				t.Errorf("%s: %v is refused", name, list)
			}
			checkList(t, list)
		}
		for _, list := range [][]int64{nil, upTo(g.Places - 1), upTo(g.Places + 1), append(upTo(g.Places), upTo(g.Places)...)} {
			if impl.OrderOk(g, list) {
				t.Errorf("%s: %v is an order", name, list)
			}
		}
	}
}

func TestListsWithOneFault(t *testing.T) {
	n := numbersFrom(23)
	for _, count := range []int64{1, 2, 3, 7, impl.MaxPlaces - 1, impl.MaxPlaces} {
		right := shuffled(&n, count)
		checkList(t, right)
		for _, at := range []int64{0, count / 2, count - 1} {
			wrong := noPlaces(count)
			for _, place := range right {
				wrong = append(wrong, place, place+1<<32, place-1<<32) // once more, and what is alike in its lower half
			}
			for _, place := range wrong {
				list := slices.Clone(right)
				list[at] = place
				checkList(t, list)
				checkList(t, slices.Insert(slices.Clone(right), int(at), place))
				checkList(t, append(slices.Clone(right), place))
			}
			checkList(t, slices.Delete(slices.Clone(right), int(at), int(at)+1))
		}
	}
}

func TestRanksToTheLetter(t *testing.T) {
	cases := []struct {
		order []int64
		want  []int64
	}{
		{nil, nil},
		{[]int64{}, nil},
		{[]int64{0}, []int64{0}},
		{[]int64{1}, nil},
		{[]int64{-1}, nil},
		{[]int64{1, 0}, []int64{1, 0}},
		{[]int64{0, 0}, nil},
		{[]int64{1, 1}, nil},
		{[]int64{1, 2}, nil},
		{[]int64{2, 0, 1}, []int64{1, 2, 0}},
		{[]int64{1, 2, 3, 0, 4}, []int64{3, 0, 1, 2, 4}},
		{[]int64{0, 1, 2, 3, 3}, nil},
		{[]int64{math.MinInt64, math.MaxInt64}, nil},
	}
	for _, c := range cases {
		if got := impl.Ranks(c.order); !slices.Equal(got, c.want) {
			t.Errorf("%v has the ranks %v, not %v", c.order, got, c.want)
		}
	}
}

func TestRanksAtTheLimits(t *testing.T) {
	n := numbersFrom(24)
	for range 50 {
		most := shuffled(&n, impl.MaxPlaces)
		ranks := impl.Ranks(most)
		if len(ranks) != impl.MaxPlaces {
			t.Fatalf("MaxPlaces numbers have the ranks %v", ranks)
		}
		for number, place := range most {
			if ranks[place] != int64(number) {
				t.Fatalf("%v has the ranks %v", most, ranks)
			}
		}
		if got := impl.Ranks(shuffled(&n, impl.MaxPlaces+1)); len(got) != 0 {
			t.Fatalf("MaxPlaces and 1 numbers have the ranks %v", got)
		}
	}
	for _, count := range []int64{impl.MaxPlaces + 1, 2 * impl.MaxPlaces, 100000} {
		if got := impl.Ranks(upTo(count)); len(got) != 0 {
			t.Fatalf("%d numbers have the ranks %v", count, got)
		}
		if impl.OrderOk(graph(impl.MaxPlaces), upTo(count)) || impl.OrderOk(graph(count), upTo(count)) {
			t.Fatalf("%d numbers are an order", count)
		}
	}
}

func TestOrderArgumentsStay(t *testing.T) {
	n := numbersFrom(25)
	graphs := orderGraphs()
	for name, g := range wrongGraphs() {
		graphs["wrong: "+name] = g
	}
	for name, g := range graphs {
		arcs := watch(g.Arcs, markedArc)
		h := impl.Graph{Places: g.Places, Arcs: arcs.list}
		impl.Order(h)
		count := max(1, min(g.Places, impl.MaxPlaces))
		lists := [][]int64{nil, {0}, {0, 0}, {-1}, {0, -1}, upTo(impl.MaxPlaces + 1), upTo(count), shuffled(&n, count), append(upTo(count), 0), upTo(count - 1)}
		for _, list := range lists {
			order := watch(list, markedPlace)
			impl.OrderOk(h, order.list)
			impl.Ranks(order.list)
			order.check(t, name)
		}
		arcs.check(t, name)
	}
}

func TestOrderAnswersAreNew(t *testing.T) {
	for name, g := range orderGraphs() {
		g.Arcs = slices.Clone(g.Arcs)
		before := slices.Clone(g.Arcs)
		first, second := impl.Order(g), impl.Order(g)
		kept := slices.Clone(second)
		overwrite(first, markedPlace)
		if third := impl.Order(g); !slices.Equal(second, kept) || !slices.Equal(third, kept) {
			t.Fatalf("%s: writing into one answer changed another: %v %v, were %v", name, second, third, kept)
		}
		if !slices.Equal(g.Arcs, before) {
			t.Fatalf("%s: an order shares memory with the map", name)
		}
		overwrite(g.Arcs, markedArc)
		if !slices.Equal(second, kept) {
			t.Fatalf("%s: the map shares memory with an order", name)
		}
	}
}

func TestRanksAnswersAreNew(t *testing.T) {
	n := numbersFrom(26)
	for count := int64(1); count <= impl.MaxPlaces; count++ {
		// The list that rises is its own ranks: there an answer could be the argument itself.
		for _, list := range [][]int64{upTo(count), shuffled(&n, count)} {
			order := watch(list, markedPlace)
			first, second := impl.Ranks(order.list), impl.Ranks(order.list)
			kept := slices.Clone(second)
			overwrite(first, markedPlace-1)
			order.check(t, "ranks")
			if third := impl.Ranks(order.list); !slices.Equal(second, kept) || !slices.Equal(third, kept) {
				t.Fatalf("writing into one answer changed another: %v %v, were %v", second, third, kept)
			}
			overwrite(order.list, markedPlace-2)
			if !slices.Equal(second, kept) {
				t.Fatalf("%v: an answer shares memory with an argument", list)
			}
		}
	}
}
