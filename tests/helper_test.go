package tests

import (
	"slices"
	"testing"

	"loop.example/g00161/impl"
)

// numbersFrom makes the same row of numbers in each run, so that a failure comes again.
type numbersFrom uint64

func (n *numbersFrom) below(limit int64) int64 {
	*n = *n*6364136223846793005 + 1442695040888963407
	return int64(uint64(*n) >> 33 % uint64(limit))
}

// someGraph makes a map that is right, of that many places and at most that many arcs.
func someGraph(n *numbersFrom, places int64, arcs int64) impl.Graph {
	g := impl.Graph{Places: places}
	taken := map[[2]int64]bool{}
	for range arcs {
		from, to := n.below(places), n.below(places)
		if from == to || taken[[2]int64{from, to}] {
			continue
		}
		taken[[2]int64{from, to}] = true
		g.Arcs = append(g.Arcs, impl.Arc{From: from, To: to, Weight: 1 + n.below(impl.MaxWeight)})
	}
	slices.SortFunc(g.Arcs, func(a, b impl.Arc) int {
		return int((a.From-b.From)*impl.MaxPlaces + a.To - b.To)
	})
	return g
}

// fullGraph has each arc there is room for: the first so many of all there could be.
func fullGraph(places int64, arcs int) impl.Graph {
	g := impl.Graph{Places: places}
	for from := range places {
		for to := range places {
			if from != to && len(g.Arcs) < arcs {
				g.Arcs = append(g.Arcs, impl.Arc{From: from, To: to, Weight: 1 + from*100 + to})
			}
		}
	}
	return g
}

func sameGraph(a, b impl.Graph) bool {
	return a.Places == b.Places && slices.Equal(a.Arcs, b.Arcs)
}

func isZeroGraph(g impl.Graph) bool {
	return sameGraph(g, impl.Graph{})
}

// watched is a list with marked room in front of it and spare room behind it, to see whether somebody wrote there.
type watched[T comparable] struct {
	whole  []T
	before []T
	list   []T
}

func watch[T comparable](list []T, mark T) watched[T] {
	whole := []T{mark, mark}
	whole = append(whole, list...)
	whole = append(whole, mark, mark, mark, mark)
	return watched[T]{whole: whole, before: slices.Clone(whole), list: whole[2 : 2+len(list)]}
}

func (w watched[T]) check(t *testing.T, what string) {
	t.Helper()
	if !slices.Equal(w.whole, w.before) {
		t.Fatalf("%s: an argument was written into: %v, was %v", what, w.whole, w.before)
	}
}

// overwrite writes all through an answer, its spare room too: nothing else may change by it.
func overwrite[T any](answer []T, mark T) {
	answer = answer[:cap(answer)]
	for i := range answer {
		answer[i] = mark
	}
}
