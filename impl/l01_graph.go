package impl

import (
	"strconv"
	"strings"
)

const Far = 1000000000000
const MaxWeight = 1000000
const MaxPlaces = 24
const MaxArcs = 100

// maxNumber is the greatest number of 9 digits: longer ones are not read.
const maxNumber = 999999999

// maxGraphWords is how many words the text of the greatest map has.
const maxGraphWords = 1 + 3*MaxArcs

type Arc struct {
	From   int64
	To     int64
	Weight int64
}

type Graph struct {
	Places int64
	Arcs   []Arc
}

// ends are what an arc is known by: a map has at most one arc between them.
type ends struct {
	from int64
	to   int64
}

func endsOf(arc Arc) ends {
	return ends{from: arc.From, to: arc.To}
}

func (e ends) below(other ends) bool {
	return e.from < other.from || e.from == other.from && e.to < other.to
}

func GraphOk(g Graph) bool {
	if g.Places < 1 || g.Places > MaxPlaces || len(g.Arcs) > MaxArcs {
		return false
	}
	for i, arc := range g.Arcs {
		if !arcOk(arc, g.Places) {
			return false
		}
		if i > 0 && !endsOf(g.Arcs[i-1]).below(endsOf(arc)) {
			return false
		}
	}
	return true
}

func arcOk(arc Arc, places int64) bool {
	return placeOk(arc.From, places) && placeOk(arc.To, places) && arc.From != arc.To && weightOk(arc.Weight)
}

func placeOk(place int64, places int64) bool {
	return place >= 0 && place < places
}

func weightOk(weight int64) bool {
	return weight >= 1 && weight <= MaxWeight
}

// arcNumbers tells where each arc stands in the list of a map that is GraphOk.
func arcNumbers(g Graph) map[ends]int {
	numbers := make(map[ends]int, len(g.Arcs))
	for i, arc := range g.Arcs {
		numbers[endsOf(arc)] = i
	}
	return numbers
}

func WeightOf(g Graph, a int64, b int64) int64 {
	if !GraphOk(g) {
		return Far
	}
	number, found := arcNumbers(g)[ends{from: a, to: b}]
	if !found {
		return Far
	}
	return g.Arcs[number].Weight
}

func Reweigh(g Graph, arcs []Arc) (Graph, bool) {
	if !GraphOk(g) {
		return Graph{}, false
	}
	weighed := Graph{Places: g.Places, Arcs: make([]Arc, len(g.Arcs))}
	copy(weighed.Arcs, g.Arcs)
	numbers := arcNumbers(g)
	for _, arc := range arcs {
		number, found := numbers[endsOf(arc)]
		if !found || !weightOk(arc.Weight) {
			return Graph{}, false
		}
		weighed.Arcs[number].Weight = arc.Weight
	}
	return weighed, true
}

func ShowGraph(g Graph) string {
	if !GraphOk(g) {
		return ""
	}
	words := make([]string, 0, maxGraphWords)
	words = append(words, showNumber(g.Places))
	for _, arc := range g.Arcs {
		words = append(words, showNumber(arc.From), showNumber(arc.To), showNumber(arc.Weight))
	}
	return strings.Join(words, " ")
}

func ReadGraph(text string) (Graph, bool) {
	// One word past the limit is enough to refuse a text, however long it is.
	words := strings.SplitN(text, " ", maxGraphWords+1)
	if len(words) > maxGraphWords || len(words)%3 != 1 {
		return Graph{}, false
	}
	numbers, ok := readNumbers(words)
	if !ok {
		return Graph{}, false
	}
	g := Graph{Places: numbers[0]}
	for i := 1; i < len(numbers); i += 3 {
		g.Arcs = append(g.Arcs, Arc{From: numbers[i], To: numbers[i+1], Weight: numbers[i+2]})
	}
	if !GraphOk(g) {
		return Graph{}, false
	}
	return g, true
}

func showNumber(number int64) string {
	return strconv.FormatInt(number, 10)
}

func readNumbers(words []string) ([]int64, bool) {
	numbers := make([]int64, len(words))
	for i, word := range words {
		number, ok := readNumber(word)
		if !ok {
			return nil, false
		}
		numbers[i] = number
	}
	return numbers, true
}

// readNumber takes a number only in the form in which it is written: ParseInt alone would also take noughts and a + ahead.
func readNumber(word string) (int64, bool) {
	number, err := strconv.ParseInt(word, 10, 64)
	if err != nil || number < -maxNumber || number > maxNumber || showNumber(number) != word {
		return 0, false
	}
	return number, true
}
