package tests

import (
	"math"
	"slices"
	"strconv"
	"testing"

	"loop.example/g00161/impl"
)

const markedText = "marked"

func none() impl.Command {
	return impl.Command{Kind: impl.CmNone}
}

func weigh(arcs ...impl.Arc) impl.Command {
	return impl.Command{Kind: impl.CmWeigh, Arcs: arcs}
}

func ask(from, to int64) impl.Command {
	return impl.Command{Kind: impl.CmAsk, From: from, To: to}
}

// serviceBy is a service with no answers, by any order.
func serviceBy(g impl.Graph, order []int64) impl.Service {
	return impl.Service{Graph: g, Hier: hierBy(g, order)}
}

func newService(g impl.Graph) impl.Service {
	return serviceBy(g, orderByWays(g))
}

// at is a service with another Version and that many answers.
func at(s impl.Service, version int64, answers int) impl.Service {
	s.Version = version
	s.Answers = manyTexts(answers)
	return s
}

func manyTexts(count int) []string {
	texts := make([]string, count)
	for i := range texts {
		texts[i] = strconv.Itoa(i % 100)
	}
	return texts
}

func sameHier(a, b impl.Hier) bool {
	return slices.Equal(a.Order, b.Order) && slices.Equal(a.Edges, b.Edges)
}

func sameService(a, b impl.Service) bool {
	return sameGraph(a.Graph, b.Graph) && sameHier(a.Hier, b.Hier) && a.Version == b.Version && slices.Equal(a.Answers, b.Answers)
}

func isZeroService(s impl.Service) bool {
	return sameService(s, impl.Service{})
}

func cloneService(s impl.Service) impl.Service {
	return impl.Service{Graph: graph(s.Graph.Places, slices.Clone(s.Graph.Arcs)...), Hier: cloneHier(s.Hier), Version: s.Version, Answers: slices.Clone(s.Answers)}
}

// commandRightByWords is CommandOk by the words of the chapter.
func commandRightByWords(c impl.Command) bool {
	if c.Kind == impl.CmAsk {
		return len(c.Arcs) == 0 && min(c.From, c.To) >= 0 && max(c.From, c.To) <= 23
	}
	if c.From != 0 || c.To != 0 {
		return false
	}
	if c.Kind == impl.CmNone {
		return len(c.Arcs) == 0
	}
	return c.Kind == impl.CmWeigh && len(c.Arcs) >= 1 && len(c.Arcs) <= 10 && !slices.ContainsFunc(c.Arcs, func(x impl.Arc) bool {
		return min(x.From, x.To) < 0 || max(x.From, x.To) > 23 || x.From == x.To || x.Weight < 1 || x.Weight > 1000000
	})
}

// answerByWords is a distance as text, by rounds over all arcs.
func answerByWords(g impl.Graph, a, b int64) string {
	if min(a, b) < 0 || max(a, b) >= g.Places {
		return "no"
	}
	if distance := distancesByRounds(g, a)[b]; distance < impl.Far {
		return strconv.FormatInt(distance, 10)
	}
	return "no"
}

// appliedByWords is Apply of a right command to a right service that has room, by the words of the chapter.
func appliedByWords(s impl.Service, c impl.Command) impl.Service {
	s = cloneService(s)
	switch c.Kind {
	case impl.CmAsk:
		s.Answers = append(s.Answers, strconv.FormatInt(s.Version, 10)+" "+answerByWords(s.Graph, c.From, c.To))
	case impl.CmWeigh:
		weighed := slices.Clone(s.Graph.Arcs)
		for _, x := range c.Arcs {
			i := slices.IndexFunc(weighed, func(y impl.Arc) bool { return x.From == y.From && x.To == y.To })
			if i < 0 {
				s.Answers = append(s.Answers, "no")
				return s
			}
			weighed[i] = x
		}
		s.Graph.Arcs = weighed
		s.Version++
		s.Answers = append(s.Answers, "ok "+strconv.FormatInt(s.Version, 10))
	}
	return s
}

// checkApply asks that a command that can be applied is, to the letter, and that the service stays right.
func checkApply(t *testing.T, name string, s impl.Service, c impl.Command) impl.Service {
	t.Helper()
	if !impl.ServiceOk(s) || !impl.CommandOk(c) {
		t.Fatalf("%s: %v, %v: the service is right: %v, the command: %v", name, s, c, impl.ServiceOk(s), impl.CommandOk(c))
	}
	got, want := impl.Apply(s, c), appliedByWords(s, c)
	if !sameService(got, want) {
		t.Fatalf("%s: %v, and %v: %v, not %v", name, s, c, got, want)
	}
	if !impl.ServiceOk(got) {
		t.Fatalf("%s: %v, and %v: %v is not right", name, s, c, got)
	}
	return got
}

// refuseApply asks that none of these is applied.
func refuseApply(t *testing.T, name string, s impl.Service, list ...impl.Command) {
	t.Helper()
	for _, c := range list {
		if got := impl.Apply(s, c); !isZeroService(got) {
			t.Fatalf("%s: Version %d, %d answers, and %v: Version %d, %d answers, the map %v, by %v", name, s.Version, len(s.Answers), c, got.Version, len(got.Answers), got.Graph, got.Hier)
		}
	}
}

// wrongCommands have one fault each; right ones beside them are told by TestCommandOkToTheLetter.
func wrongCommands() map[string]impl.Command {
	one := arc(0, 1, 5)
	all := map[string]impl.Command{
		"zero":                         {},
		"Kind 0, to weigh":             {Kind: 0, Arcs: []impl.Arc{one}},
		"Kind 0, to ask":               {Kind: 0, From: 1, To: 2},
		"Kind 4":                       {Kind: 4},
		"Kind 4, to weigh":             {Kind: 4, Arcs: []impl.Arc{one}},
		"Kind 4, to ask":               {Kind: 4, From: 1, To: 2},
		"Kind -1":                      {Kind: -1},
		"Kind -2, to weigh":            {Kind: -2, Arcs: []impl.Arc{one}},
		"least Kind":                   {Kind: math.MinInt64},
		"greatest Kind":                {Kind: math.MaxInt64},
		"Kind far above 1":             {Kind: 1<<32 + impl.CmNone},
		"Kind far above 2":             {Kind: 1<<32 + impl.CmWeigh, Arcs: []impl.Arc{one}},
		"Kind far above 3":             {Kind: 1<<32 + impl.CmAsk},
		"nothing, with an arc":         {Kind: impl.CmNone, Arcs: []impl.Arc{one}},
		"nothing, with a zero arc":     {Kind: impl.CmNone, Arcs: []impl.Arc{{}}},
		"nothing, with From":           {Kind: impl.CmNone, From: 1},
		"nothing, with To":             {Kind: impl.CmNone, To: 1},
		"nothing, with From -1":        {Kind: impl.CmNone, From: -1},
		"nothing, with To -1":          {Kind: impl.CmNone, To: -1},
		"nothing, with From and To":    {Kind: impl.CmNone, From: 1, To: 1},
		"nothing, From and To cancel":  {Kind: impl.CmNone, From: 1, To: -1},
		"to weigh, with From":          {Kind: impl.CmWeigh, Arcs: []impl.Arc{one}, From: 1},
		"to weigh, with To":            {Kind: impl.CmWeigh, Arcs: []impl.Arc{one}, To: 1},
		"to weigh, with From -1":       {Kind: impl.CmWeigh, Arcs: []impl.Arc{one}, From: -1},
		"to weigh, with To -1":         {Kind: impl.CmWeigh, Arcs: []impl.Arc{one}, To: -1},
		"to weigh, with From and To":   {Kind: impl.CmWeigh, Arcs: []impl.Arc{one}, From: 2, To: 3},
		"to weigh, no arc":             weigh(),
		"to weigh, empty list":         {Kind: impl.CmWeigh, Arcs: []impl.Arc{}},
		"to weigh, no arc, From, To":   {Kind: impl.CmWeigh, From: 1, To: 2},
		"to weigh, MaxBatch and 1":     weigh(sameArcs(impl.MaxBatch+1, one)...),
		"to weigh, many":               weigh(sameArcs(1000, one)...),
		"to weigh, MaxArcs":            weigh(fullGraph(11, impl.MaxArcs).Arcs...),
		"to ask, with an arc":          {Kind: impl.CmAsk, Arcs: []impl.Arc{one}, From: 0, To: 1},
		"to ask, with a zero arc":      {Kind: impl.CmAsk, Arcs: []impl.Arc{{}}, From: 0, To: 1},
		"to ask, with MaxBatch":        {Kind: impl.CmAsk, Arcs: sameArcs(impl.MaxBatch, one), From: 0, To: 1},
		"to ask, with one of 0 and 0":  {Kind: impl.CmAsk, Arcs: []impl.Arc{one}},
		"to ask, both -1":              ask(-1, -1),
		"to ask, both MaxPlaces":       ask(impl.MaxPlaces, impl.MaxPlaces),
		"to ask, far above the places": ask(1<<32, 1<<32),
	}
	for i, far := range []int64{-1, impl.MaxPlaces, impl.MaxPlaces + 1, -impl.MaxPlaces, impl.Far, 1 << 32, math.MinInt64, math.MaxInt64} {
		number := strconv.Itoa(i)
		all["to ask, From out of range "+number] = ask(far, 1)
		all["to ask, To out of range "+number] = ask(1, far)
	}
	for i, x := range wrongArcs() {
		number := strconv.Itoa(i)
		all["to weigh, a wrong arc "+number] = weigh(x)
		all["to weigh, a wrong arc ahead "+number] = weigh(x, one)
		all["to weigh, a wrong arc behind "+number] = weigh(one, x)
	}
	return all
}

func sameArcs(count int, x impl.Arc) []impl.Arc {
	return slices.Repeat([]impl.Arc{x}, count)
}

// wrongArcs are arcs that no map has, however great.
func wrongArcs() []impl.Arc {
	return []impl.Arc{
		{}, arc(-1, 1, 5), arc(1, -1, 5), arc(impl.MaxPlaces, 1, 5), arc(1, impl.MaxPlaces, 5), arc(-1, impl.MaxPlaces, 5),
		arc(math.MinInt64, 1, 5), arc(1, math.MinInt64, 5), arc(math.MaxInt64, 1, 5), arc(1, math.MaxInt64, 5), arc(1<<32, 1, 5), arc(0, 1<<32+1, 5),
		arc(0, 0, 5), arc(1, 1, 5), arc(impl.MaxPlaces-1, impl.MaxPlaces-1, 5), arc(-1, -1, 5),
		arc(0, 1, 0), arc(0, 1, -1), arc(0, 1, impl.MaxWeight+1), arc(0, 1, impl.Far), arc(0, 1, 1<<32+5), arc(0, 1, math.MinInt64), arc(0, 1, math.MaxInt64),
	}
}

func TestCommandOkToTheLetter(t *testing.T) {
	const last = impl.MaxPlaces - 1
	for name, c := range map[string]impl.Command{
		"nothing":                     none(),
		"nothing, empty list":         {Kind: impl.CmNone, Arcs: []impl.Arc{}},
		"to weigh":                    weigh(arc(0, 1, 5)),
		"to weigh, back":              weigh(arc(1, 0, 5)),
		"to weigh, first and last":    weigh(arc(0, last, 5), arc(last, 0, 5)),
		"to weigh, last ones":         weigh(arc(last-1, last, 5), arc(last, last-1, 5)),
		"to weigh, least Weight":      weigh(arc(0, 1, 1)),
		"to weigh, least and 1":       weigh(arc(0, 1, 2)),
		"to weigh, greatest Weight":   weigh(arc(0, 1, impl.MaxWeight)),
		"to weigh, greatest less 1":   weigh(arc(0, 1, impl.MaxWeight-1)),
		"to weigh, MaxBatch less 1":   weigh(fullGraph(11, impl.MaxBatch-1).Arcs...),
		"to weigh, MaxBatch":          weigh(fullGraph(11, impl.MaxBatch).Arcs...),
		"to weigh, MaxBatch, falling": weigh(arc(9, 8, 1), arc(8, 9, 1), arc(7, 8, 2), arc(7, 6, 1), arc(6, 0, 1), arc(5, 0, 4), arc(4, 5, 1), arc(3, 2, 1), arc(2, 3, 1), arc(0, 1, 1)),
		"to weigh, one twice":         weigh(arc(0, 1, 5), arc(0, 1, 6)),
		"to weigh, alike":             weigh(sameArcs(impl.MaxBatch, arc(0, 1, 5))...),
		"to ask":                      ask(0, 1),
		"to ask, back":                ask(1, 0),
		"to ask, empty list":          {Kind: impl.CmAsk, Arcs: []impl.Arc{}, From: 2, To: 3},
		"to ask, alike":               ask(3, 3),
		"to ask, both 0":              ask(0, 0),
		"to ask, both the last":       ask(last, last),
		"to ask, first and last":      ask(0, last),
		"to ask, last and first":      ask(last, 0),
	} {
		if !impl.CommandOk(c) || !commandRightByWords(c) {
			t.Errorf("%s: %v is refused", name, c)
		}
	}
	for name, c := range wrongCommands() {
		if impl.CommandOk(c) || commandRightByWords(c) {
			t.Errorf("%s: %v is accepted", name, c)
		}
	}
}

func TestCommandOkOfManyCommands(t *testing.T) {
	right := fullGraph(11, impl.MaxBatch+1).Arcs
	lists := [][]impl.Arc{nil, {}, right[:1], right[:2], right[:impl.MaxBatch], right, {arc(0, 0, 0)}, {arc(23, 24, 1)}}
	numbers := []int64{-24, -1, 0, 1, 2, 3, 22, 23, 24, 25, 1 << 40}
	for kind := int64(-3); kind <= 6; kind++ {
		for _, arcs := range lists {
			for _, from := range numbers {
				for _, to := range numbers {
					c := impl.Command{Kind: kind, Arcs: arcs, From: from, To: to}
					if got, want := impl.CommandOk(c), commandRightByWords(c); got != want {
						t.Fatalf("%v: %v, not %v", c, got, want)
					}
				}
			}
		}
	}
}

func TestCommandOkLooksAtEachArc(t *testing.T) {
	for count := 1; count <= impl.MaxBatch; count++ {
		for i := range count {
			right := fullGraph(11, count).Arcs
			if !impl.CommandOk(weigh(right...)) {
				t.Fatalf("%v is refused", right)
			}
			for _, x := range wrongArcs() {
				arcs := slices.Clone(right)
				arcs[i] = x
				if impl.CommandOk(weigh(arcs...)) {
					t.Fatalf("%v is accepted", arcs)
				}
			}
		}
	}
}

func TestCommandOkOfAllArcs(t *testing.T) {
	for from := int64(-2); from <= impl.MaxPlaces+1; from++ {
		for to := int64(-2); to <= impl.MaxPlaces+1; to++ {
			for _, weight := range []int64{0, 1, 2, impl.MaxWeight - 1, impl.MaxWeight, impl.MaxWeight + 1} {
				c := weigh(arc(from, to, weight))
				if got, want := impl.CommandOk(c), commandRightByWords(c); got != want {
					t.Fatalf("%v: %v, not %v", c, got, want)
				}
			}
			c := ask(from, to)
			if got, want := impl.CommandOk(c), commandRightByWords(c); got != want {
				t.Fatalf("%v: %v, not %v", c, got, want)
			}
		}
	}
}

func TestAnswerToTheLetter(t *testing.T) {
	line := graph(3, arc(0, 1, 2), arc(1, 2, 3))
	cases := []struct {
		name string
		g    impl.Graph
		a    int64
		b    int64
		want string
	}{
		{"an arc", line, 0, 1, "2"},
		{"two arcs", line, 0, 2, "5"},
		{"to itself", line, 1, 1, "0"},
		{"no way back", line, 2, 0, "no"},
		{"no such place", line, 0, 3, "no"},
		{"from no such place", line, 3, 0, "no"},
		{"to -1", line, 0, -1, "no"},
		{"from -1", line, -1, 0, "no"},
		{"from no place to itself", line, 3, 3, "no"},
		{"one place", graph(1), 0, 0, "0"},
		{"one place, no other", graph(1), 0, 1, "no"},
		{"no arcs", graph(3), 0, 2, "no"},
		{"no arcs, to itself", graph(3), 2, 2, "0"},
		{"the greatest distance", chain(impl.MaxPlaces, impl.MaxWeight), 0, impl.MaxPlaces - 1, "23000000"},
		{"a shorter way", graph(3, arc(0, 1, 2), arc(0, 2, 9), arc(1, 2, 3)), 0, 2, "5"},
		{"no map", impl.Graph{}, 0, 0, "no"},
		{"no map, to itself", graph(3, arc(0, 1, 0)), 2, 2, "no"},
		{"no map, along an arc", graph(2, arc(0, 1, 5), arc(0, 1, 5)), 0, 1, "no"},
	}
	for _, c := range cases {
		if got := impl.Answer(c.g, c.a, c.b); got != c.want {
			t.Errorf("%s: %q, not %q", c.name, got, c.want)
		}
	}
}

func TestAnswerOfEachPair(t *testing.T) {
	for name, g := range orderGraphs() {
		for _, a := range append(noPlaces(g.Places), upTo(g.Places)...) {
			for _, b := range append(noPlaces(g.Places), upTo(g.Places)...) {
				if got, want := impl.Answer(g, a, b), answerByWords(g, a, b); got != want {
					t.Fatalf("%s: %v from %d to %d: %q, not %q", name, g, a, b, got, want)
				}
			}
		}
	}
}

func TestAnswerOfWrongMaps(t *testing.T) {
	for name, g := range wrongGraphs() {
		for _, a := range []int64{-1, 0, 1, 2, g.Places - 1, g.Places, math.MinInt64, math.MaxInt64} {
			for _, b := range []int64{-1, 0, 1, 2, g.Places - 1, g.Places, math.MinInt64, math.MaxInt64, a} {
				if got := impl.Answer(g, a, b); got != "no" {
					t.Fatalf("%s from %d to %d: %q", name, a, b, got)
				}
			}
		}
	}
}

func TestNewService(t *testing.T) {
	graphs := orderGraphs()
	for name, g := range rightGraphs() {
		graphs["right: "+name] = g
	}
	for name, g := range graphs {
		s, is := impl.NewService(g)
		if want := newService(g); !is || !sameService(s, want) {
			t.Fatalf("%s: %v: %v %v, not %v", name, g, s, is, want)
		}
		if !impl.ServiceOk(s) || !sameHier(s.Hier, impl.NewHier(g)) {
			t.Fatalf("%s: %v: %v is not right", name, g, s)
		}
	}
	for name, g := range wrongGraphs() {
		if s, is := impl.NewService(g); is || !isZeroService(s) {
			t.Fatalf("%s: %v has a service: %v %v", name, g, s, is)
		}
	}
}

// eachKind are commands of each Kind, right whatever the map; a ring has the first arc and not the second.
func eachKind() []impl.Command {
	return []impl.Command{none(), weigh(arc(0, 1, 9)), weigh(arc(1, 0, 9)), ask(0, 2), ask(0, 0), ask(0, impl.MaxPlaces-1)}
}

func TestServiceOkAtTheBounds(t *testing.T) {
	for name, g := range map[string]impl.Graph{"a ring": ring(4, 7), "one place": graph(1)} {
		s := newService(g)
		for _, version := range []int64{0, 1, 5, impl.MaxVersion - 1, impl.MaxVersion} {
			for _, answers := range []int{0, 1, 5, impl.MaxVersion - 1, impl.MaxVersion} {
				if !impl.ServiceOk(at(s, version, answers)) {
					t.Errorf("%s: Version %d, %d answers: refused", name, version, answers)
				}
			}
		}
		for _, version := range []int64{-1, -impl.MaxVersion, impl.MaxVersion + 1, 1 << 32, math.MinInt64, math.MaxInt64} {
			for _, answers := range []int{0, 1, impl.MaxVersion} {
				wrong := at(s, version, answers)
				if impl.ServiceOk(wrong) {
					t.Errorf("%s: Version %d, %d answers: accepted", name, version, answers)
				}
				refuseApply(t, name, wrong, eachKind()...)
			}
		}
		for _, version := range []int64{-1, 0, 1, impl.MaxVersion, impl.MaxVersion + 1} {
			for _, answers := range []int{impl.MaxVersion + 1, 3 * impl.MaxVersion} {
				wrong := at(s, version, answers)
				if impl.ServiceOk(wrong) {
					t.Errorf("%s: Version %d, %d answers: accepted", name, version, answers)
				}
				refuseApply(t, name, wrong, eachKind()...)
			}
		}
	}
}

func TestServiceOkOfAnyOrder(t *testing.T) {
	n := numbersFrom(111)
	for name, g := range orderGraphs() {
		for by, order := range someOrders(&n, g) {
			if s := serviceBy(g, order); !impl.ServiceOk(s) {
				t.Fatalf("%s, %s: %v is refused", name, by, s)
			}
		}
	}
}

func TestServicesOfWrongMaps(t *testing.T) {
	for name, g := range wrongGraphs() {
		hiers := []impl.Hier{{}, hier([]int64{0}), hier([]int64{0, 1}), hier([]int64{0, 1}, edge(0, 1)), hier([]int64{0, 1, 2}, allEdges(3)...)}
		if g.Places >= 0 && g.Places <= impl.MaxPlaces+1 {
			hiers = append(hiers, hier(upTo(g.Places)), hier(upTo(g.Places), allEdges(g.Places)...))
		}
		for _, h := range hiers {
			s := impl.Service{Graph: g, Hier: h}
			if impl.ServiceOk(s) {
				t.Fatalf("%s: %v is accepted", name, s)
			}
			refuseApply(t, name, s, eachKind()...)
		}
	}
}

func TestServicesOfWrongHiers(t *testing.T) {
	n := numbersFrom(112)
	for name, g := range someSmallMaps(&n) {
		right := hierBy(g, shuffled(&n, g.Places))
		for what, h := range wrongHiers(&n, right) {
			s := impl.Service{Graph: g, Hier: h}
			if impl.ServiceOk(s) {
				t.Fatalf("%s, %s: %v is accepted", name, what, s)
			}
			refuseApply(t, name+", "+what, s, eachKind()...)
		}
	}
	s := newService(ring(4, 7))
	s.Hier = impl.NewHier(chain(4, 7))
	if impl.ServiceOk(s) {
		t.Error("a ring with the hierarchy of a chain is accepted")
	}
	refuseApply(t, "the hierarchy of another map", s, eachKind()...)
}

func TestApplyToTheLetter(t *testing.T) {
	line := graph(3, arc(0, 1, 2), arc(1, 2, 3))
	both := graph(3, arc(0, 1, 2), arc(0, 2, 9), arc(1, 2, 3), arc(2, 1, 4))
	cases := []struct {
		name    string
		g       impl.Graph
		list    []impl.Command
		version int64
		answers []string
	}{
		{"nothing at all", line, nil, 0, nil},
		{"none", line, []impl.Command{none(), none()}, 0, nil},
		{"a question", line, []impl.Command{ask(0, 2)}, 0, []string{"0 5"}},
		{"a question twice", line, []impl.Command{ask(0, 2), ask(0, 2)}, 0, []string{"0 5", "0 5"}},
		{"no way", line, []impl.Command{ask(2, 0)}, 0, []string{"0 no"}},
		{"to itself", line, []impl.Command{ask(2, 2)}, 0, []string{"0 0"}},
		{"no such place", line, []impl.Command{ask(0, 3), ask(3, 0), ask(3, 3), ask(23, 0), ask(0, 23), ask(23, 23)}, 0, []string{"0 no", "0 no", "0 no", "0 no", "0 no", "0 no"}},
		{"one place", graph(1), []impl.Command{ask(0, 0), ask(0, 1), ask(1, 1)}, 0, []string{"0 0", "0 no", "0 no"}},
		{"one place has no arc", graph(1), []impl.Command{weigh(arc(0, 1, 5)), ask(0, 0)}, 0, []string{"no", "0 0"}},
		{"no arcs", graph(3), []impl.Command{weigh(arc(0, 1, 5)), ask(0, 1)}, 0, []string{"no", "0 no"}},
		{"weighed", line, []impl.Command{weigh(arc(0, 1, 7))}, 1, []string{"ok 1"}},
		{"weighed, and asked", line, []impl.Command{weigh(arc(0, 1, 7)), ask(0, 2)}, 1, []string{"ok 1", "1 10"}},
		{"asked ahead and behind", line, []impl.Command{ask(0, 2), weigh(arc(0, 1, 7)), ask(0, 2), weigh(arc(1, 2, 1)), ask(0, 2)}, 2, []string{"0 5", "ok 1", "1 10", "ok 2", "2 8"}},
		{"nothing between", line, []impl.Command{none(), ask(0, 2), none(), weigh(arc(0, 1, 7)), none(), ask(0, 2), none()}, 1, []string{"0 5", "ok 1", "1 10"}},
		{"weighed as it was", line, []impl.Command{weigh(arc(0, 1, 2)), ask(0, 2)}, 1, []string{"ok 1", "1 5"}},
		{"weighed there and back", line, []impl.Command{weigh(arc(0, 1, 7)), weigh(arc(0, 1, 2)), ask(0, 2)}, 2, []string{"ok 1", "ok 2", "2 5"}},
		{"no such arc", line, []impl.Command{weigh(arc(1, 0, 7)), ask(0, 2)}, 0, []string{"no", "0 5"}},
		{"an arc of no such place", line, []impl.Command{weigh(arc(2, 3, 7)), ask(0, 2)}, 0, []string{"no", "0 5"}},
		{"one that is there, one that is not", line, []impl.Command{weigh(arc(0, 1, 7), arc(2, 1, 7)), ask(0, 2)}, 0, []string{"no", "0 5"}},
		{"one that is not there, one that is", line, []impl.Command{weigh(arc(2, 1, 7), arc(0, 1, 7)), ask(0, 2)}, 0, []string{"no", "0 5"}},
		{"no, then ok", line, []impl.Command{weigh(arc(2, 1, 7)), weigh(arc(0, 1, 7)), weigh(arc(2, 1, 7)), weigh(arc(0, 1, 8)), ask(0, 1)}, 2, []string{"no", "ok 1", "no", "ok 2", "2 8"}},
		{"two in one", line, []impl.Command{weigh(arc(1, 2, 30), arc(0, 1, 20)), ask(0, 2), ask(0, 1)}, 1, []string{"ok 1", "1 50", "1 20"}},
		{"one twice in one", line, []impl.Command{weigh(arc(0, 1, 20), arc(0, 1, 30)), ask(0, 1)}, 1, []string{"ok 1", "1 30"}},
		{"one twice in one, exchanged", line, []impl.Command{weigh(arc(0, 1, 30), arc(0, 1, 20)), ask(0, 1)}, 1, []string{"ok 1", "1 20"}},
		{"the way changes", both, []impl.Command{ask(0, 2), weigh(arc(0, 2, 4)), ask(0, 2), ask(0, 1), weigh(arc(0, 1, 9)), ask(0, 1)}, 2, []string{"0 5", "ok 1", "1 4", "1 2", "ok 2", "2 8"}},
		{"the least and the greatest Weight", line, []impl.Command{weigh(arc(0, 1, 1), arc(1, 2, impl.MaxWeight)), ask(0, 2), weigh(arc(0, 1, impl.MaxWeight)), ask(0, 2)}, 2, []string{"ok 1", "1 1000001", "ok 2", "2 2000000"}},
	}
	for _, c := range cases {
		s, _ := impl.NewService(c.g)
		for _, command := range c.list {
			s = checkApply(t, c.name, s, command)
		}
		if s.Version != c.version || !slices.Equal(s.Answers, c.answers) {
			t.Errorf("%s: %d %q, not %d %q", c.name, s.Version, s.Answers, c.version, c.answers)
		}
	}
}

func TestApplyWeighsOneToMaxBatchArcs(t *testing.T) {
	g := fullGraph(11, impl.MaxArcs)
	for count := 1; count <= impl.MaxBatch; count++ {
		news := allWeighed(graph(11, g.Arcs[40:40+count]...), 777).Arcs
		s := checkApply(t, "some arcs", newService(g), weigh(news...))
		for i, x := range s.Graph.Arcs {
			if (x.Weight == 777) != (i >= 40 && i < 40+count) {
				t.Fatalf("%d arcs: %v", count, s.Graph)
			}
		}
		// The last of them is none of the map's: no Weight is taken.
		news[count-1] = arc(11, 12, 777)
		if s = checkApply(t, "one is not there", newService(g), weigh(news...)); s.Version != 0 || !sameGraph(s.Graph, g) {
			t.Fatalf("%d arcs, one of which is not there: %v", count, s)
		}
	}
}

// someCommand is a right command, one in some that a service says no to.
func someCommand(n *numbersFrom, g impl.Graph) impl.Command {
	switch n.below(8) {
	case 0:
		return none()
	case 1:
		return weigh(arc(0, 1+n.below(impl.MaxPlaces-1), 1+n.below(9)))
	case 2:
		return weigh(append(newWeights(n, g, n.below(3)), arc(n.below(12), 12+n.below(12), 1+n.below(9)))...)
	case 3:
		return ask(n.below(impl.MaxPlaces), n.below(impl.MaxPlaces))
	case 4, 5:
		return ask(n.below(g.Places), n.below(g.Places))
	}
	if arcs := newWeights(n, g, 1+n.below(impl.MaxBatch)); len(arcs) > 0 {
		return weigh(arcs...)
	}
	return none()
}

// TestAnswersAreByTheMapAsWeighedThen holds promise 8 for lists of commands: each answer against the weights that had come by then.
func TestAnswersAreByTheMapAsWeighedThen(t *testing.T) {
	n := numbersFrom(113)
	for name, g := range someSmallMaps(&n) {
		for by, order := range someOrders(&n, g) {
			s := serviceBy(g, order)
			for range 40 {
				s = checkApply(t, name+", "+by, s, someCommand(&n, g))
			}
		}
	}
	for name, g := range orderGraphs() {
		s, _ := impl.NewService(g)
		for range 20 {
			s = checkApply(t, name, s, someCommand(&n, g))
		}
	}
}

// TestAnswersOfEachPairBehindEachWeighing asks all that can be asked, whenever the map was weighed.
func TestAnswersOfEachPairBehindEachWeighing(t *testing.T) {
	n := numbersFrom(114)
	for name, g := range someSmallMaps(&n) {
		s, _ := impl.NewService(g)
		for range 3 {
			for _, a := range upTo(min(g.Places+1, 9)) {
				for _, b := range upTo(min(g.Places+1, 9)) {
					s = checkApply(t, name, s, ask(a, b))
				}
			}
			if len(g.Arcs) > 0 {
				s = checkApply(t, name, s, weigh(newWeights(&n, g, impl.MaxBatch)...))
			}
		}
	}
}

// TestAnswersOfAllShortLists goes through all lists of four commands out of some, on maps with one way and two.
func TestAnswersOfAllShortLists(t *testing.T) {
	some := []impl.Command{
		none(), ask(0, 2), ask(2, 0), weigh(arc(0, 1, 1)), weigh(arc(0, 1, 9), arc(1, 2, 9)), weigh(arc(1, 2, 4), arc(1, 2, 1)), weigh(arc(0, 2, 6)), weigh(arc(0, 1, 5), arc(2, 1, 5)),
	}
	for name, g := range map[string]impl.Graph{"one way": graph(3, arc(0, 1, 2), arc(1, 2, 3)), "two ways": graph(3, arc(0, 1, 2), arc(0, 2, 7), arc(1, 2, 3), arc(2, 0, 1))} {
		lists := []impl.Service{newService(g)}
		for range 4 {
			var longer []impl.Service
			for _, s := range lists {
				for _, c := range some {
					longer = append(longer, checkApply(t, name, s, c))
				}
			}
			lists = longer
		}
	}
}

// TestAnswersAreThoseOfTheMapThen holds what Apply tells, by the hierarchy, against what Answer tells, by Distances.
func TestAnswersAreThoseOfTheMapThen(t *testing.T) {
	n := numbersFrom(115)
	for name, g := range orderGraphs() {
		s, _ := impl.NewService(g)
		for range 6 {
			if arcs := newWeights(&n, g, 1+n.below(impl.MaxBatch)); len(arcs) > 0 {
				s = impl.Apply(s, weigh(arcs...))
			}
			a, b := n.below(g.Places+1)%impl.MaxPlaces, n.below(g.Places+1)%impl.MaxPlaces
			s = impl.Apply(s, ask(a, b))
			if got, want := s.Answers[len(s.Answers)-1], strconv.FormatInt(s.Version, 10)+" "+impl.Answer(s.Graph, a, b); got != want {
				t.Fatalf("%s: %v from %d to %d: %q, not %q", name, s.Graph, a, b, got, want)
			}
		}
	}
}

func TestApplyOfTheGreatestMaps(t *testing.T) {
	n := numbersFrom(116)
	for name, g := range map[string]impl.Graph{"a ladder": ladder(), "a ring": ring(impl.MaxPlaces, 1), "whole": fullGraph(11, impl.MaxArcs), "many places": fullGraph(impl.MaxPlaces, impl.MaxArcs)} {
		for by, order := range someOrders(&n, g) {
			s := serviceBy(g, order)
			for _, weight := range []int64{impl.MaxWeight, 1} {
				for first := 0; first < len(g.Arcs); first += impl.MaxBatch {
					some := graph(g.Places, g.Arcs[first:min(first+impl.MaxBatch, len(g.Arcs))]...)
					s = checkApply(t, name+", "+by, s, weigh(allWeighed(some, weight).Arcs...))
				}
				s = checkApply(t, name+", "+by, s, ask(0, g.Places-1))
				s = checkApply(t, name+", "+by, s, ask(g.Places-1, 0))
			}
		}
	}
}

func TestApplyKeepsWhatWasThere(t *testing.T) {
	s := serviceBy(ring(4, 7), []int64{2, 0, 3, 1})
	s.Version = 41
	s.Answers = []string{"", "no", "41 5", "something else", "\n\x00\xff"}
	for _, c := range eachKind() {
		checkApply(t, "answers of any text", s, c)
	}
	if got := impl.Apply(s, weigh(arc(0, 1, 9))); got.Version != 42 || !slices.Equal(got.Answers, append(slices.Clone(s.Answers), "ok 42")) {
		t.Errorf("%v", got)
	}
}

func TestApplyRefusesWrongCommands(t *testing.T) {
	n := numbersFrom(117)
	for name, g := range someSmallMaps(&n) {
		for what, c := range wrongCommands() {
			refuseApply(t, name+", "+what, newService(g), c)
			refuseApply(t, name+", "+what, at(newService(g), 3, 3), c)
		}
	}
	for what, c := range wrongCommands() {
		refuseApply(t, "the zero Service, "+what, impl.Service{}, c)
	}
}

func TestApplyAtTheBounds(t *testing.T) {
	const most = impl.MaxVersion
	s := newService(ring(4, 7))
	taken, refused := weigh(arc(0, 1, 9)), weigh(arc(1, 0, 9))
	cases := []struct {
		name    string
		version int64
		answers int
		c       impl.Command
		want    string // the last answer; empty where there is no room
	}{
		{"the last Version", most - 1, 0, taken, "ok 100000"},
		{"the last but one", most - 2, 0, taken, "ok 99999"},
		{"no Version more", most, 0, taken, ""},
		{"no Version is wanted for no", most, 0, refused, "no"},
		{"no Version is wanted for a question", most, 0, ask(0, 2), "100000 14"},
		{"no Version is wanted for no way", most, 0, ask(0, 4), "100000 no"},
		{"the last answer, ok", 0, most - 1, taken, "ok 1"},
		{"the last answer, no", 0, most - 1, refused, "no"},
		{"the last answer, a question", 0, most - 1, ask(0, 2), "0 14"},
		{"the last answer, no way", 0, most - 1, ask(0, 4), "0 no"},
		{"no answer more, ok", 0, most, taken, ""},
		{"no answer more, no", 0, most, refused, ""},
		{"no answer more, a question", 0, most, ask(0, 2), ""},
		{"no answer more, no way", 0, most, ask(0, 4), ""},
		{"the last of both", most - 1, most - 1, taken, "ok 100000"},
		{"the last answer, no Version more", most, most - 1, taken, ""},
		{"the last answer, no Version more, no", most, most - 1, refused, "no"},
		{"the last answer, no Version more, a question", most, most - 1, ask(0, 2), "100000 14"},
		{"neither", most, most, taken, ""},
		{"neither, no", most, most, refused, ""},
		{"neither, a question", most, most, ask(0, 2), ""},
	}
	for _, c := range cases {
		ahead := at(s, c.version, c.answers)
		if c.want == "" {
			refuseApply(t, c.name, ahead, c.c)
			continue
		}
		got, want := impl.Apply(ahead, c.c), appliedByWords(ahead, c.c)
		if !sameService(got, want) || got.Answers[len(got.Answers)-1] != c.want {
			t.Errorf("%s: Version %d, %d answers", c.name, got.Version, len(got.Answers))
		}
	}
	for _, version := range []int64{0, most - 1, most} {
		for _, answers := range []int{0, most - 1, most} {
			ahead := at(s, version, answers)
			if got := impl.Apply(ahead, none()); !sameService(got, ahead) {
				t.Errorf("nothing at Version %d, %d answers: Version %d, %d answers", version, answers, got.Version, len(got.Answers))
			}
		}
	}
}

// watchedService watches all the lists of a service and a command.
type watchedService struct {
	s       impl.Service
	c       impl.Command
	lists   watchedMetric
	answers watched[string]
}

func watchService(s impl.Service, c impl.Command) watchedService {
	w := watchedService{lists: watchMetric(s.Graph, s.Hier, impl.Metric{}, c.Arcs), answers: watch(s.Answers, markedText)}
	w.s = impl.Service{Graph: w.lists.g, Hier: w.lists.h, Version: s.Version, Answers: w.answers.list}
	w.c = impl.Command{Kind: c.Kind, Arcs: w.lists.news.list, From: c.From, To: c.To}
	return w
}

func (w watchedService) check(t *testing.T, name string) {
	t.Helper()
	w.lists.check(t, name)
	w.answers.check(t, name)
}

func (w watchedService) overwrite() {
	w.lists.overwrite()
	overwrite(w.answers.whole, "overwritten")
}

func overwriteService(s impl.Service) {
	overwrite(s.Graph.Arcs, markedArc)
	overwrite(s.Hier.Order, markedPlace)
	overwrite(s.Hier.Edges, markedEdge)
	overwrite(s.Answers, markedText)
}

// manyCommands are right ones and wrong ones.
func manyCommands(n *numbersFrom, g impl.Graph) []impl.Command {
	list := append(eachKind(), weigh(newWeights(n, g, impl.MaxBatch)...), weigh(append(newWeights(n, g, 3), arc(22, 23, 4))...))
	for i, x := range wrongArcs() {
		list = append(list, impl.Command{Kind: int64(i % 6), Arcs: []impl.Arc{arc(0, 1, 5), x}, From: int64(i % 3)})
	}
	return append(list, weigh(sameArcs(impl.MaxBatch+1, arc(0, 1, 4))...), weigh(), ask(-1, impl.MaxPlaces))
}

func TestServiceArgumentsStay(t *testing.T) {
	n := numbersFrom(118)
	graphs := someSmallMaps(&n)
	for name, g := range wrongGraphs() {
		graphs["wrong: "+name] = g
	}
	for name, g := range graphs {
		count := max(1, min(g.Places, impl.MaxPlaces))
		mixed := shuffled(&n, count)
		for _, h := range []impl.Hier{{}, impl.NewHier(g), hier(mixed, impl.Fill(g, mixed)...), hier(upTo(count), allEdges(count)...), hier(falling(count), edge(0, 0), edge(-1, 1))} {
			for _, version := range []int64{-1, 0, impl.MaxVersion} {
				for _, c := range manyCommands(&n, g) {
					w := watchService(impl.Service{Graph: g, Hier: h, Version: version, Answers: []string{"no", "0 5"}[:n.below(3)]}, c)
					impl.CommandOk(w.c)
					impl.NewService(w.s.Graph)
					impl.ServiceOk(w.s)
					impl.Apply(w.s, w.c)
					impl.Answer(w.s.Graph, c.From, c.To)
					w.check(t, name)
				}
			}
		}
	}
	for _, answers := range []int{impl.MaxVersion - 1, impl.MaxVersion, impl.MaxVersion + 1} {
		for _, c := range eachKind() {
			w := watchService(at(newService(ring(4, 7)), 5, answers), c)
			impl.ServiceOk(w.s)
			impl.Apply(w.s, w.c)
			w.check(t, "many answers")
		}
	}
}

// checkNewService asks that a service that is answered is new memory each time, each list of it apart from the others.
func checkNewService(t *testing.T, name string, w watchedService, answer func() impl.Service) {
	t.Helper()
	first, second := answer(), answer()
	kept := cloneService(second)
	overwriteService(first)
	w.check(t, name)
	if third := answer(); !sameService(second, kept) || !sameService(third, kept) {
		t.Fatalf("%s: writing into one answer changed another: %v %v, were %v", name, second, third, kept)
	}
	w.overwrite()
	if !sameService(second, kept) {
		t.Fatalf("%s: an answer shares memory with an argument: %v, was %v", name, second, kept)
	}
}

func TestServiceAnswersAreNew(t *testing.T) {
	n := numbersFrom(119)
	for name, g := range orderGraphs() {
		w := watchService(newService(g), none())
		checkNewService(t, name, w, func() impl.Service {
			s, _ := impl.NewService(w.s.Graph)
			return s
		})
		for i, c := range append(eachKind(), weigh(newWeights(&n, g, 4)...), weigh()) {
			s := serviceBy(g, shuffled(&n, g.Places))
			s.Answers = []string{"no", "ok 1", "1 no"}[:i%4]
			w := watchService(s, c)
			checkNewService(t, name, w, func() impl.Service { return impl.Apply(w.s, w.c) })
		}
	}
}

// TestApplyTwiceFromOneService asks that two that follow one service know nothing of one another.
func TestApplyTwiceFromOneService(t *testing.T) {
	s := newService(ring(4, 7))
	for range 5 {
		for _, c := range eachKind() {
			one := impl.Apply(s, c)
			kept := cloneService(one)
			for _, d := range eachKind() {
				other := impl.Apply(s, d)
				impl.Apply(one, d)
				overwriteService(other)
				if !sameService(one, kept) {
					t.Fatalf("%v behind %v changed what %v answered: %v, was %v", d, s, c, one, kept)
				}
			}
		}
		s = impl.Apply(s, ask(0, 2))
	}
}
