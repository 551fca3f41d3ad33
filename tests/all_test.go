package tests

import (
	"go/ast"
	"go/parser"
	"go/token"
	"maps"
	"math"
	"os"
	"path/filepath"
	"reflect"
	"runtime"
	"slices"
	"strings"
	"testing"

	"loop.example/g00161/impl"
)

// allFunctions are all that the program shows: promise 15 is asked of each of them here, whatever its own chapter's tests ask.
func allFunctions() map[string]any {
	return map[string]any{
		"GraphOk": impl.GraphOk, "WeightOf": impl.WeightOf, "Reweigh": impl.Reweigh, "ShowGraph": impl.ShowGraph, "ReadGraph": impl.ReadGraph,
		"Distances": impl.Distances, "Length": impl.Length, "Reached": impl.Reached,
		"Order": impl.Order, "OrderOk": impl.OrderOk, "Ranks": impl.Ranks,
		"Fill": impl.Fill, "Parents": impl.Parents, "Chordal": impl.Chordal, "Above": impl.Above,
		"NewHier": impl.NewHier, "HierOk": impl.HierOk, "Customize": impl.Customize, "MetricOk": impl.MetricOk, "Recustomize": impl.Recustomize,
		"Climb": impl.Climb, "Meeting": impl.Meeting, "Distance": impl.Distance,
		"Unpack": impl.Unpack, "Route": impl.Route,
		"CommandOk": impl.CommandOk, "NewService": impl.NewService, "ServiceOk": impl.ServiceOk, "Apply": impl.Apply, "Answer": impl.Answer,
		"ShowCommand": impl.ShowCommand, "ReadCommand": impl.ReadCommand, "Sum": impl.Sum,
		"LogOk": impl.LogOk, "LastTerm": impl.LastTerm, "Fits": impl.Fits, "Merge": impl.Merge, "Newer": impl.Newer,
		"NodeOk": impl.NodeOk, "NewNode": impl.NewNode, "Timeout": impl.Timeout, "Beat": impl.Beat, "Propose": impl.Propose, "Receive": impl.Receive, "Restart": impl.Restart,
		"ClusterOk": impl.ClusterOk, "NewCluster": impl.NewCluster, "Do": impl.Do, "Play": impl.Play, "Calm": impl.Calm,
		"Agreed": impl.Agreed, "Longest": impl.Longest, "Serve": impl.Serve, "Served": impl.Served, "True": impl.True,
		"Bench": impl.Bench,
	}
}

// refusals are what the document names for arguments that are not as a chapter wants them. LastTerm, Newer and Sum refuse nothing.
func refusals() map[string][]any {
	return map[string][]any{
		"GraphOk": {false}, "WeightOf": {int64(impl.Far)}, "Reweigh": {impl.Graph{}, false}, "ShowGraph": {""}, "ReadGraph": {impl.Graph{}, false},
		"Distances": {[]int64{}}, "Length": {int64(impl.Far)}, "Reached": {[]int64{}},
		"Order": {[]int64{}}, "OrderOk": {false}, "Ranks": {[]int64{}},
		"Fill": {[]impl.Edge{}}, "Parents": {[]int64{}}, "Chordal": {false}, "Above": {[]int64{}},
		"NewHier": {impl.Hier{}}, "HierOk": {false}, "Customize": {impl.Metric{}}, "MetricOk": {false}, "Recustomize": {impl.Graph{}, impl.Metric{}, false},
		"Climb": {[]int64{}}, "Meeting": {int64(-1)}, "Distance": {int64(impl.Far)},
		"Unpack": {[]int64{}}, "Route": {[]int64{}, int64(impl.Far)},
		"CommandOk": {false}, "NewService": {impl.Service{}, false}, "ServiceOk": {false}, "Apply": {impl.Service{}}, "Answer": {"no"},
		"ShowCommand": {""}, "ReadCommand": {impl.Command{}, false},
		"LogOk": {false}, "Fits": {false}, "Merge": {[]impl.Entry{}, false},
		"NodeOk": {false}, "NewNode": {impl.Node{}, false}, "Timeout": {impl.Node{}, []impl.Message{}}, "Beat": {[]impl.Message{}}, "Propose": {impl.Node{}, int64(-1)}, "Receive": {impl.Node{}, []impl.Message{}}, "Restart": {impl.Node{}},
		"ClusterOk": {false}, "NewCluster": {impl.Cluster{}, false}, "Do": {impl.Cluster{}, int64(-2)}, "Play": {impl.Cluster{}, []int64{}}, "Calm": {impl.Cluster{}},
		"Agreed": {false}, "Longest": {[]string{}}, "Serve": {impl.Service{}, false}, "Served": {impl.Service{}, false}, "True": {[]string{}},
		"Bench": {""},
	}
}

// rightArguments are some for each function of which something comes that is no refusal.
func rightArguments(t *testing.T) map[string][][]any {
	t.Helper()
	g := graph(4, arc(0, 1, 7), arc(1, 0, 5), arc(1, 2, 7), arc(2, 3, 7), arc(3, 0, 7))
	h := impl.NewHier(g)
	m := impl.Customize(g, h)
	news := []impl.Arc{arc(0, 1, 2), arc(3, 0, 1)}
	edges, order, zero, one, two, three := h.Edges, h.Order, int64(0), int64(1), int64(2), int64(3)
	s := impl.Apply(impl.Apply(newService(g), ask(0, 2)), weigh(news...))
	texts := []string{"ask 0 2", "none", "weigh 0 1 2", "ask 0 2"}
	log := textLog([]int64{1, 1, 2, 2}, texts...)
	follows, stands := follower(1, 3, 2, -1, log, 2), standing(0, 3, 3, log, 0)
	leads := withCommit(leader(0, 3, 2, log, []int64{5, 2, 5}, []int64{4, 1, 2}), 2)
	c := calmCluster(t, 3, 0)
	c, _ = impl.Play(c, []impl.Op{opTell(0, "weigh 0 1 2"), opTell(0, "ask 0 2"), opBeat(0), opTwice(1)})
	agreed := impl.Calm(c, 0)
	return map[string][][]any{
		"GraphOk": {{g}}, "WeightOf": {{g, zero, one}}, "Reweigh": {{g, news}}, "ShowGraph": {{g}}, "ReadGraph": {{impl.ShowGraph(g)}},
		"Distances": {{g, zero}}, "Length": {{g, []int64{0, 1, 2, 3, 0}}}, "Reached": {{g, two}},
		"Order": {{g}}, "OrderOk": {{g, order}}, "Ranks": {{order}},
		"Fill": {{g, order}}, "Parents": {{edges, int64(4)}}, "Chordal": {{edges, int64(4)}}, "Above": {{edges, int64(4), zero}},
		"NewHier": {{g}}, "HierOk": {{g, h}}, "Customize": {{g, h}}, "MetricOk": {{h, m}}, "Recustomize": {{g, h, m, news}},
		"Climb": {{h, m, zero, false}, {h, m, one, true}}, "Meeting": {{h, m, zero, three}}, "Distance": {{h, m, zero, two}},
		"Unpack": {{g, h, m, edges[0].Low, edges[0].High, true}, {g, h, m, edges[1].Low, edges[1].High, false}}, "Route": {{g, h, m, zero, two}, {g, h, m, three, three}},
		"CommandOk": {{none()}, {weigh(news...)}, {ask(0, 2)}}, "NewService": {{g}}, "ServiceOk": {{s}}, "Apply": {{s, none()}, {s, weigh(news...)}, {s, ask(0, 2)}}, "Answer": {{g, zero, two}},
		"ShowCommand": {{none()}, {weigh(news...)}, {ask(0, 2)}}, "ReadCommand": {{"none"}, {"weigh 0 1 2 3 0 1"}, {"ask 0 2"}}, "Sum": {{"none"}},
		"LogOk": {{log}}, "LastTerm": {{log}}, "Fits": {{log, two, one}}, "Merge": {{log, two, textLog([]int64{2, 3}, "weigh 0 1 2", "none")}, {log, one, log[1:2]}}, "Newer": {{log, int64(4), two}},
		"NodeOk": {{follows}, {stands}, {leads}}, "NewNode": {{one, three}}, "Timeout": {{follows}, {stands}, {leads}, {follower(0, 1, 2, -1, log, 2)}}, "Beat": {{leads}}, "Propose": {{leads, "ask 0 1"}},
		"Receive": {{follows, vote(3, 0, 1, 4, 2)}, {stands, voted(3, 1, 0, true)}, {follows, appends(2, 0, 1, 2, 1, 3, log[2:]...)}, {leads, appended(2, 1, 0, 4, true)}, {leads, appended(2, 2, 0, 1, false)}}, "Restart": {{leads}, {stands}},
		"ClusterOk": {{c}}, "NewCluster": {{three}}, "Do": {{c, opTime(1)}, {c, opBeat(0)}, {c, opTell(0, "none")}, {c, opDeliver(1)}, {c, opLose(0)}, {c, opTwice(0)}, {c, opStop(0)}},
		"Play": {{c, []impl.Op{opDeliver(0), opTwice(1), opTell(0, "none"), opBeat(0), opLose(1), opStop(2), opTime(1)}}}, "Calm": {{c, zero}, {c, two}},
		"Agreed": {{c}}, "Longest": {{agreed}}, "Serve": {{g, texts}}, "Served": {{agreed, one, g}}, "True": {{g, texts}},
		"Bench": {{fullLife}, {"x\n\nrole 0"}},
	}
}

// span is memory of one list, from its first byte to the end of its room.
type span struct {
	from, to uintptr
	whose    string
}

// guard is the memory of one list of an argument, with marked room on both sides of it, and what it held.
type guard struct {
	whole, before reflect.Value
}

// marked fills a value with numbers and texts that nobody would write there.
func marked(kind reflect.Type) reflect.Value {
	return filled(kind, filling{number: -77, text: markedText})
}

// guarded copies a value, each list of it into memory that is watched.
func guarded(v reflect.Value, guards *[]guard) reflect.Value {
	own := reflect.New(v.Type()).Elem()
	switch {
	case v.Kind() == reflect.Struct:
		for i := range v.NumField() {
			own.Field(i).Set(guarded(v.Field(i), guards))
		}
	case v.Kind() == reflect.Slice && !v.IsNil():
		whole := reflect.MakeSlice(v.Type(), v.Len()+6, v.Len()+6)
		for i := range whole.Len() {
			whole.Index(i).Set(marked(v.Type().Elem()))
		}
		for i := range v.Len() {
			whole.Index(i + 2).Set(guarded(v.Index(i), guards))
		}
		before := reflect.MakeSlice(v.Type(), whole.Len(), whole.Len())
		reflect.Copy(before, whole)
		*guards = append(*guards, guard{whole: whole, before: before})
		own.Set(whole.Slice(2, 2+v.Len()))
	default:
		own.Set(v)
	}
	return own
}

// stays asks of a list within only where it lies and how long it is: what it holds has a guard of its own.
func stays(a, b reflect.Value) bool {
	switch a.Kind() {
	case reflect.Struct:
		for i := range a.NumField() {
			if !stays(a.Field(i), b.Field(i)) {
				return false
			}
		}
		return true
	case reflect.Slice:
		return a.Pointer() == b.Pointer() && a.Len() == b.Len() && a.Cap() == b.Cap()
	}
	return a.Equal(b)
}

// sameAnswer takes an empty list and nil for the same.
func sameAnswer(a, b reflect.Value) bool {
	switch a.Kind() {
	case reflect.Struct:
		for i := range a.NumField() {
			if !sameAnswer(a.Field(i), b.Field(i)) {
				return false
			}
		}
		return true
	case reflect.Slice:
		if a.Len() != b.Len() {
			return false
		}
		for i := range a.Len() {
			if !sameAnswer(a.Index(i), b.Index(i)) {
				return false
			}
		}
		return true
	}
	return a.Equal(b)
}

func spansOf(v reflect.Value, whose string) []span {
	var list []span
	switch v.Kind() {
	case reflect.Struct:
		for i := range v.NumField() {
			list = append(list, spansOf(v.Field(i), whose)...)
		}
	case reflect.Slice:
		if v.Cap() > 0 {
			list = append(list, span{from: v.Pointer(), to: v.Pointer() + uintptr(v.Cap())*v.Type().Elem().Size(), whose: whose})
		}
		for i := range v.Len() {
			list = append(list, spansOf(v.Index(i), whose)...)
		}
	}
	return list
}

func checkApart(t *testing.T, name string, list []span) {
	t.Helper()
	slices.SortFunc(list, func(a, b span) int {
		if a.from < b.from {
			return -1
		}
		return 1
	})
	for i := 1; i < len(list); i++ {
		if list[i].from < list[i-1].to {
			t.Fatalf("%s: %s and %s share memory", name, list[i-1].whose, list[i].whose)
		}
	}
}

// called fails, and tells at what, where the function panics.
func called(t *testing.T, name string, args []reflect.Value) []reflect.Value {
	t.Helper()
	defer func() {
		if reason := recover(); reason != nil {
			t.Fatalf("%s panics: %v: %.2000v", name, reason, args)
		}
	}()
	return reflect.ValueOf(allFunctions()[name]).Call(args)
}

// askAt calls a function twice, and asks all that promise 15 says of its arguments and answers.
func askAt(t *testing.T, name string, args []reflect.Value) []reflect.Value {
	t.Helper()
	var guards []guard
	own := make([]reflect.Value, len(args))
	for i, v := range args {
		own[i] = guarded(v, &guards)
	}
	first, second := called(t, name, own), called(t, name, own)
	var list []span
	for _, g := range guards {
		list = append(list, span{from: g.whole.Pointer(), to: g.whole.Pointer() + uintptr(g.whole.Cap())*g.whole.Type().Elem().Size(), whose: "an argument"})
		for i := range g.whole.Len() {
			if !stays(g.whole.Index(i), g.before.Index(i)) {
				t.Fatalf("%s: an argument was written into: %.2000v, was %.2000v", name, g.whole, g.before)
			}
		}
	}
	for i := range first {
		list = append(append(list, spansOf(first[i], "an answer")...), spansOf(second[i], "another answer")...)
		if !sameAnswer(first[i], second[i]) {
			t.Fatalf("%s: %.2000v, and then %.2000v", name, first[i], second[i])
		}
	}
	checkApart(t, name, list)
	return second
}

// filling is what a value is filled with, all through: so many in each list, and more texts than any list of them may have where many is set.
type filling struct {
	number int64
	text   string
	yes    bool
	count  int
	many   bool
}

func filled(kind reflect.Type, f filling) reflect.Value {
	v := reflect.New(kind).Elem()
	switch kind.Kind() {
	case reflect.Int64:
		v.SetInt(f.number)
	case reflect.String:
		v.SetString(f.text)
	case reflect.Bool:
		v.SetBool(f.yes)
	case reflect.Struct:
		for i := range v.NumField() {
			v.Field(i).Set(filled(kind.Field(i).Type, f))
		}
	case reflect.Slice:
		count := f.count
		if f.many && kind.Elem().Kind() == reflect.String {
			count = impl.MaxVersion + 1
		}
		if count == 0 {
			break
		}
		v.Set(reflect.MakeSlice(kind, count, count))
		for i := range count {
			v.Index(i).Set(filled(kind.Elem(), f))
		}
	}
	return v
}

func filledArguments(name string, f filling) []reflect.Value {
	kind := reflect.TypeOf(allFunctions()[name])
	args := make([]reflect.Value, kind.NumIn())
	for i := range args {
		args[i] = filled(kind.In(i), f)
	}
	return args
}

func areAnswers(got []reflect.Value, want []any) bool {
	return slices.EqualFunc(got, valuesOf(want), sameAnswer)
}

// checkFilled asks each function at such arguments for its refusal, but where another answer is named.
func checkFilled(t *testing.T, f filling, others map[string][]any) {
	t.Helper()
	for name := range allFunctions() {
		want, other := others[name]
		if !other {
			want = refusals()[name]
		}
		if got := askAt(t, name, filledArguments(name, f)); !areAnswers(got, want) {
			t.Fatalf("%s at %d, %d, %v: %.2000v, not %.2000v", name, f.number, f.count, f.yes, got, want)
		}
	}
}

// declaredFunctions are the exported ones that the files of the program have, and the methods of its exported types.
func declaredFunctions(t *testing.T) []string {
	t.Helper()
	files, _ := filepath.Glob(filepath.Join("..", "impl", "*.go"))
	var names []string
	for _, file := range files {
		text, err := os.ReadFile(file)
		if err != nil {
			t.Fatal(err)
		}
		parsed, err := parser.ParseFile(token.NewFileSet(), file, text, 0)
		if err != nil {
			t.Fatal(err)
		}
		for _, d := range parsed.Decls {
			// What errors tell of themselves is asked by nobody outside.
			if f, is := d.(*ast.FuncDecl); is && f.Name.IsExported() && f.Name.Name != "Error" && f.Name.Name != "Unwrap" {
				names = append(names, f.Name.Name)
			}
		}
	}
	return names
}

func TestAllFunctionsAreAsked(t *testing.T) {
	declared := declaredFunctions(t)
	slices.Sort(declared)
	if asked := slices.Sorted(maps.Keys(allFunctions())); !slices.Equal(declared, asked) {
		t.Fatalf("%v, not %v", asked, declared)
	}
	if right := slices.Sorted(maps.Keys(rightArguments(t))); !slices.Equal(declared, right) {
		t.Fatalf("%v, not %v", right, declared)
	}
}

func TestAllAtZeroValues(t *testing.T) {
	checkFilled(t, filling{}, map[string][]any{
		"Sum": {int64(5)}, "LogOk": {true}, "LastTerm": {int64(0)}, "Fits": {true}, "Merge": {[]impl.Entry{}, true}, "Newer": {true},
	})
}

func TestAllAtTheLeastAndGreatest(t *testing.T) {
	for _, number := range []int64{math.MinInt64, math.MinInt64 + 1, -1 << 32, -1, impl.Far + 1, math.MaxInt64 - 1, math.MaxInt64} {
		for _, yes := range []bool{false, true} {
			checkFilled(t, filling{number: number, text: "x", yes: yes, count: 1}, map[string][]any{
				"Sum": {int64(775)}, "LastTerm": {number}, "Newer": {number > 0}, "Bench": {"error\n"},
			})
		}
	}
}

// TestAllWithoutLists: numbers alone are out of range.
func TestAllWithoutLists(t *testing.T) {
	for _, number := range []int64{math.MinInt64, -1, math.MaxInt64} {
		checkFilled(t, filling{number: number}, map[string][]any{
			"Sum": {int64(5)}, "LogOk": {true}, "LastTerm": {int64(0)}, "Newer": {number > 0},
		})
	}
}

// TestAllPastEveryLimit: each list has more than it may have, each number is out of range, each text is too long and no right one.
func TestAllPastEveryLimit(t *testing.T) {
	text := strings.Repeat("x\n", impl.MaxText)
	for _, number := range []int64{math.MinInt64, math.MaxInt64} {
		checkFilled(t, filling{number: number, text: text, yes: true, count: impl.MaxLog + 1, many: true}, map[string][]any{
			"Sum": {sumByPowers(text)}, "LastTerm": {number}, "Newer": {number > 0},
		})
	}
	for _, name := range []string{"Play", "Length", "Reweigh", "LogOk", "Merge", "Apply", "Ranks"} {
		if got := askAt(t, name, filledArguments(name, filling{number: 1, text: "none", count: impl.MaxOps + 1})); !areAnswers(got, refusals()[name]) {
			t.Fatalf("%s: %.2000v", name, got)
		}
	}
}

func valuesOf(args []any) []reflect.Value {
	list := make([]reflect.Value, len(args))
	for i, one := range args {
		list[i] = reflect.ValueOf(one)
	}
	return list
}

// TestAllAtRightArguments: of all that they answer, of one call or of several, no two lists share memory.
func TestAllAtRightArguments(t *testing.T) {
	var list []span
	var kept []reflect.Value
	for name, all := range rightArguments(t) {
		for _, args := range all {
			got := askAt(t, name, valuesOf(args))
			if areAnswers(got, refusals()[name]) {
				t.Fatalf("%s refuses %+v", name, args)
			}
			for _, v := range got {
				list = append(list, spansOf(v, "an answer of "+name)...)
			}
			kept = append(kept, got...)
		}
	}
	checkApart(t, "all", list)
	// What is let go of may be given to the next one.
	runtime.KeepAlive(kept)
	if len(list) < 100 {
		t.Fatal(len(list))
	}
}

// changes are what one value, by itself, may become: the limits of its kind, what is next to it, and lists that are too short or too long.
func changes(v reflect.Value) []reflect.Value {
	var list []reflect.Value
	switch v.Kind() {
	case reflect.Int64:
		for _, number := range []int64{math.MinInt64, -1, 0, v.Int() - 1, v.Int() + 1, impl.MaxTerm + 1, impl.Far, impl.Far + 1, math.MaxInt64} {
			list = append(list, reflect.ValueOf(number))
		}
	case reflect.String:
		for _, text := range []string{"", "x", "none", v.String() + " ", v.String() + "\n", strings.Repeat("none", impl.MaxText)} {
			list = append(list, reflect.ValueOf(text))
		}
	case reflect.Bool:
		list = append(list, reflect.ValueOf(!v.Bool()))
	case reflect.Slice:
		longer := reflect.MakeSlice(v.Type(), v.Len()+1, v.Len()+1)
		reflect.Copy(longer, v)
		many := reflect.MakeSlice(v.Type(), impl.MaxOps+1, impl.MaxOps+1)
		for i := range many.Len() {
			many.Index(i).Set(longer.Index(i % longer.Len()))
		}
		list = append(list, reflect.Zero(v.Type()), reflect.MakeSlice(v.Type(), 0, 0), longer, many)
		if v.Len() > 0 {
			list = append(list, v.Slice(0, v.Len()-1), v.Slice(1, v.Len()))
		}
	}
	return list
}

// eachChange goes through a value that may be written into, and changes one thing at a time.
func eachChange(v reflect.Value, changed func()) {
	for _, other := range changes(v) {
		was := reflect.New(v.Type()).Elem()
		was.Set(v)
		v.Set(other)
		changed()
		v.Set(was)
	}
	switch v.Kind() {
	case reflect.Struct:
		for i := range v.NumField() {
			eachChange(v.Field(i), changed)
		}
	case reflect.Slice:
		for i := range v.Len() {
			eachChange(v.Index(i), changed)
		}
	}
}

// TestAllNearRightArguments: one number, text, flag or list of them is another one.
func TestAllNearRightArguments(t *testing.T) {
	for name, all := range rightArguments(t) {
		for _, args := range all {
			own := make([]reflect.Value, len(args))
			var unused []guard
			for i, v := range valuesOf(args) {
				own[i] = guarded(v, &unused)
			}
			for _, v := range own {
				eachChange(v, func() { askAt(t, name, own) })
			}
		}
	}
}
