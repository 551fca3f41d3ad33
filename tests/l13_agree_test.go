package tests

import (
	"math"
	"slices"
	"strconv"
	"sync"
	"testing"

	"loop.example/g00161/impl"
)

func sameUpTo(a, b []impl.Entry, count int) bool {
	for i := range count {
		if a[i].Term != b[i].Term || a[i].Text != b[i].Text {
			return false
		}
	}
	return true
}

// twoAgreeByWords asks at each number, not at the last one alone.
func twoAgreeByWords(a, b impl.Node) bool {
	if a.Role == 3 && b.Role == 3 && a.Term == b.Term {
		return false
	}
	for i := range min(len(a.Log), len(b.Log)) {
		if a.Log[i].Term == b.Log[i].Term && !sameUpTo(a.Log, b.Log, i+1) {
			return false
		}
	}
	return sameUpTo(a.Log, b.Log, int(min(a.Commit, b.Commit)))
}

// allAgreeByWords is Agreed by the words of the chapter.
func allAgreeByWords(c impl.Cluster) bool {
	if !clusterRightByWords(c) {
		return false
	}
	for i, a := range c.Nodes {
		for j, b := range c.Nodes {
			if i != j && !twoAgreeByWords(a, b) {
				return false
			}
		}
	}
	return true
}

func partTexts(n impl.Node) []string {
	var texts []string
	for _, one := range n.Log[:n.Commit] {
		texts = append(texts, one.Text)
	}
	return texts
}

func longestByWords(c impl.Cluster) []string {
	if !allAgreeByWords(c) {
		return nil
	}
	var longest []string
	for _, n := range c.Nodes {
		if texts := partTexts(n); len(texts) >= len(longest) {
			longest = texts
		}
	}
	return longest
}

// checkAgreed holds Agreed, Longest and Served against the words.
func checkAgreed(t *testing.T, what any, c impl.Cluster, agreed bool) {
	t.Helper()
	if got := impl.Agreed(c); got != agreed || got != allAgreeByWords(c) {
		t.Fatalf("%v: %+v: %v, not %v", what, c, got, agreed)
	}
	if got, want := impl.Longest(c), longestByWords(c); !slices.Equal(got, want) {
		t.Fatalf("%v: %+v: %q, not %q", what, c, got, want)
	}
	if !agreed {
		refuseServed(t, what, c, graph(1), append(farNumbers(int64(len(c.Nodes))), upTo(int64(len(c.Nodes)))...)...)
	}
}

func refuseServed(t *testing.T, what any, c impl.Cluster, g impl.Graph, nodes ...int64) {
	t.Helper()
	for _, node := range nodes {
		if s, is := impl.Served(c, node, g); is || !isZeroService(s) {
			t.Fatalf("%v: %d of %+v is served: %+v %v", what, node, c, s, is)
		}
	}
}

// withLogs is servers that follow in a late Term, each with its Log and how much of it is agreed on.
func withLogs(commits []int64, logs ...[]impl.Entry) impl.Cluster {
	var c impl.Cluster
	for id, log := range logs {
		c.Nodes = append(c.Nodes, follower(int64(id), int64(len(logs)), 9, -1, log, commits[id]))
	}
	return c
}

// textLog is entries of these Terms and Texts.
func textLog(terms []int64, texts ...string) []impl.Entry {
	log := make([]impl.Entry, len(terms))
	for i, term := range terms {
		log[i] = entry(term, texts[i])
	}
	return log
}

// amongOthers are clusters in which two of up to MaxPeers servers have these logs and the others have none.
func amongOthers(a, b []impl.Entry, commitOfA, commitOfB int64) []impl.Cluster {
	var list []impl.Cluster
	for peers := 2; peers <= impl.MaxPeers; peers++ {
		for i := range peers {
			for j := range peers {
				if i == j {
					continue
				}
				logs, commits := make([][]impl.Entry, peers), make([]int64, peers)
				logs[i], logs[j], commits[i], commits[j] = a, b, commitOfA, commitOfB
				list = append(list, withLogs(commits, logs...))
			}
		}
	}
	return list
}

func TestAgreedOfWrongClusters(t *testing.T) {
	for name, c := range wrongClusters() {
		checkAgreed(t, name, c, false)
	}
	right := calmCluster(t, 3, 0)
	checkAgreed(t, "MaxNet", withNet(right, manyMessages(impl.MaxNet)...), true)
	checkAgreed(t, "MaxNet and 1", withNet(right, manyMessages(impl.MaxNet+1)...), false)
	for at := range int64(3) {
		wrong := cloneCluster(right)
		wrong.Nodes[at].Commit = 2
		checkAgreed(t, "Commit behind the log's end", wrong, false)
		wrong = cloneCluster(right)
		wrong.Nodes[at].Log[0].Text = "nothing"
		checkAgreed(t, "a text that is no command's", wrong, false)
		wrong = cloneCluster(right)
		wrong.Nodes[at].Term = 0
		checkAgreed(t, "a Term below the log's", wrong, false)
	}
}

func TestAgreedOfOneServer(t *testing.T) {
	checkAgreed(t, "new", newCluster(1), true)
	checkAgreed(t, "leads", calmCluster(t, 1, 0), true)
	log := logOf(3, 1, 1, 4)
	for commit := range int64(4) {
		for _, n := range []impl.Node{follower(0, 1, 4, -1, log, 0), standing(0, 1, 7, log), leader(0, 1, 4, log, []int64{2}, []int64{0})} {
			c := impl.Cluster{Nodes: []impl.Node{withCommit(n, commit)}}
			checkAgreed(t, commit, c, true)
			if got := impl.Longest(c); int64(len(got)) != commit {
				t.Fatalf("%+v: %q", c, got)
			}
		}
	}
}

func TestAgreedOfNewClusters(t *testing.T) {
	for peers := int64(1); peers <= impl.MaxPeers; peers++ {
		checkAgreed(t, peers, newCluster(peers), true)
		if got := impl.Longest(newCluster(peers)); len(got) != 0 {
			t.Fatal(got)
		}
	}
}

// newLeader has an empty log, or one of its Term alone.
func newLeader(id, peers, term int64) impl.Node {
	return leader(id, peers, term, nil, alike(int(peers), 1), alike(int(peers), 0))
}

func TestAgreedOfThoseThatLead(t *testing.T) {
	for peers := int64(2); peers <= impl.MaxPeers; peers++ {
		for i := range peers {
			for j := range i {
				one := withNode(newCluster(peers), newLeader(i, peers, 4))
				checkAgreed(t, "one leads", one, true)
				checkAgreed(t, "in one Term", withNode(one, newLeader(j, peers, 4)), false)
				checkAgreed(t, "in an earlier Term", withNode(one, newLeader(j, peers, 3)), true)
				checkAgreed(t, "in a later Term", withNode(one, newLeader(j, peers, 5)), true)
				checkAgreed(t, "one stands", withNode(one, standing(j, peers, 4, nil, j)), true)
				checkAgreed(t, "one follows", withNode(one, follower(j, peers, 4, i, nil, 0)), true)
				checkAgreed(t, "two stand", withNode(withNode(one, standing(j, peers, 4, nil, j)), standing(i, peers, 4, nil, i)), true)
			}
		}
	}
	all := newCluster(impl.MaxPeers)
	for id := range int64(impl.MaxPeers) {
		all = withNode(all, newLeader(id, impl.MaxPeers, 1+id))
	}
	checkAgreed(t, "all lead, each in a Term of its own", all, true)
	for i := range int64(impl.MaxPeers) {
		for j := range int64(impl.MaxPeers) {
			checkAgreed(t, "two of all that lead", withNode(all, newLeader(i, impl.MaxPeers, 1+j)), i == j)
		}
	}
	checkAgreed(t, "Term 0", withNode(withNode(newCluster(3), newLeader(0, 3, 0)), newLeader(2, 3, 0)), false)
	checkAgreed(t, "MaxTerm", withNode(withNode(newCluster(3), newLeader(0, 3, impl.MaxTerm)), newLeader(2, 3, impl.MaxTerm)), false)
}

func TestAgreedOfTwoLogs(t *testing.T) {
	cases := []struct {
		name   string
		a, b   []impl.Entry
		agreed bool
	}{
		{"both empty", nil, nil, true},
		{"one empty", logOf(0, 1, 1, 2), nil, true},
		{"alike", logOf(0, 1, 1, 2), logOf(0, 1, 1, 2), true},
		{"one begins the other", logOf(0, 1, 1, 2), logOf(0, 1, 1), true},
		{"one begins the other, of another Term behind it", logOf(0, 1, 1, 2), logOf(0, 1, 1, 1), true},
		{"another Text at the only number", textLog([]int64{1}, "none"), textLog([]int64{1}, "ask 0 1"), false},
		{"another Text at the last number", textLog([]int64{1, 2}, "none", "ask 0 1"), textLog([]int64{1, 2}, "none", "ask 0 2"), false},
		{"another Text at a number of one Term, nothing alike ahead", textLog([]int64{2, 2}, "none", "ask 0 1"), textLog([]int64{1, 2}, "none", "ask 0 2"), false},
		{"another Text ahead of it", textLog([]int64{1, 2}, "none", "ask 0 1"), textLog([]int64{1, 2}, "ask 0 0", "ask 0 1"), false},
		{"another Term ahead of it", textLog([]int64{1, 3}, "none", "ask 0 1"), textLog([]int64{2, 3}, "none", "ask 0 1"), false},
		{"another Term far ahead of it", logOf(0, 1, 3, 3, 3, 3), logOf(0, 2, 3, 3, 3, 3), false},
		{"another Term ahead of it, other Terms behind it", logOf(0, 1, 3, 4), logOf(0, 2, 3, 5), false},
		{"another Text ahead of it, other Terms behind it", textLog([]int64{1, 3, 4}, "none", "none", "none"), textLog([]int64{1, 3, 5}, "ask 0 0", "none", "none"), false},
		{"another Text behind the shorter one", textLog([]int64{1, 1}, "none", "ask 0 1"), textLog([]int64{1}, "none"), true},
		{"no number of one Term", logOf(0, 1, 1, 2), logOf(0, 3, 3, 4), true},
		{"no number of one Term, the same Texts", logOf(0, 1, 1), logOf(0, 2, 2), true},
		{"no number of one Term, other Texts", logOf(0, 1, 1), logOf(1, 2, 2), true},
		{"one Term at unlike numbers", logOf(0, 1, 2), logOf(1, 2, 3), true},
		{"one Term at unlike numbers, unlike lengths", logOf(0, 1, 1, 1, 2), logOf(1, 2, 2), true},
		{"alike up to a number, other Terms behind it", logOf(0, 1, 2, 2), logOf(0, 1, 3, 3), true},
		{"alike up to a number, other Terms and Texts behind it", append(logOf(0, 1), logOf(1, 2, 2)...), append(logOf(0, 1), logOf(2, 3, 3)...), true},
		{"unlike lengths, another Text of one Term", logOf(0, 1, 1, 1, 1), append(logOf(0, 1), logOf(1, 1)...), false},
		{"MaxLog, alike", logOf(0, alike(impl.MaxLog, 5)...), logOf(0, alike(impl.MaxLog, 5)...), true},
		{"MaxLog, another Text at first", logOf(0, alike(impl.MaxLog, 5)...), append(textLog([]int64{5}, "none"), logOf(0, alike(impl.MaxLog, 5)...)[1:]...), false},
		{"MaxLog, another Text at last", logOf(0, alike(impl.MaxLog, 5)...), append(logOf(0, alike(impl.MaxLog-1, 5)...), entry(5, "none")), false},
		{"MaxLog, another Term at last", logOf(0, alike(impl.MaxLog, 5)...), append(logOf(0, alike(impl.MaxLog-1, 5)...), entry(6, "none")), true},
		{"MaxLog, another Term at first", logOf(0, alike(impl.MaxLog, 5)...), logOf(0, append([]int64{4}, alike(impl.MaxLog-1, 5)...)...), false},
	}
	for _, c := range cases {
		for _, cluster := range amongOthers(c.a, c.b, 0, 0) {
			checkAgreed(t, c.name, cluster, c.agreed)
		}
	}
}

func TestAgreedOfAgreedParts(t *testing.T) {
	long, short := logOf(0, 1, 1, 2, 3), logOf(0, 1, 1)
	apart, fork := logOf(0, 1, 1, 4, 4), append(logOf(0, 1, 1), logOf(1, 4, 4)...)
	cases := []struct {
		name       string
		a, b       []impl.Entry
		ofA, ofB   int64
		agreed     bool
		howLongest int
	}{
		{"both empty", long, apart, 0, 0, true, 0},
		{"one empty", long, apart, 4, 0, true, 4},
		{"alike, all", long, long, 4, 4, true, 4},
		{"alike, in part", long, long, 2, 2, true, 2},
		{"one begins the other", long, long, 1, 3, true, 3},
		{"one begins the other, of unlike logs", long, short, 3, 2, true, 3},
		{"alike, and the logs part behind them", long, apart, 2, 2, true, 2},
		{"one goes on where the other's log parts", long, apart, 4, 2, true, 4},
		{"the same, the other way", long, fork, 1, 4, true, 4},
		{"they part at another Term", long, apart, 3, 3, false, 0},
		{"they part at another Term, one is longer", long, apart, 4, 3, false, 0},
		{"they part at another Term and Text", long, fork, 3, 3, false, 0},
		{"they part at another Term and Text, one is longer", long, fork, 3, 4, false, 0},
		{"they part at first", logOf(0, 1), logOf(0, 2), 1, 1, false, 0},
		{"they part at first, one is empty", logOf(0, 1), logOf(0, 2), 1, 0, true, 1},
	}
	for _, c := range cases {
		for _, cluster := range amongOthers(c.a, c.b, c.ofA, c.ofB) {
			checkAgreed(t, c.name, cluster, c.agreed)
			if got := impl.Longest(cluster); len(got) != c.howLongest {
				t.Fatalf("%s: %+v: %q", c.name, cluster, got)
			}
		}
	}
}

// TestAgreedOfThreeServers: each two are asked, not the neighbours alone, and not the first against the others alone.
func TestAgreedOfThreeServers(t *testing.T) {
	none, one, other := []impl.Entry(nil), logOf(0, 2, 2), logOf(1, 2, 2)
	later := logOf(0, 3, 3)
	for _, logs := range [][3][]impl.Entry{{one, none, other}, {none, one, other}, {one, other, none}} {
		checkAgreed(t, "logs", withLogs(alike(3, 0), logs[:]...), false)
	}
	for _, logs := range [][3][]impl.Entry{{one, none, later}, {none, one, later}, {one, later, none}, {later, one, none}} {
		checkAgreed(t, "logs that do not part", withLogs(alike(3, 0), logs[:]...), true)
		commits := make([]int64, 3)
		for i, log := range logs {
			commits[i] = int64(len(log) / 2)
		}
		checkAgreed(t, "agreed parts", withLogs(commits, logs[:]...), false)
	}
}

// smallLogs are all right ones of at most so many entries, of two Terms and two Texts.
func smallLogs(most int) [][]impl.Entry {
	all := [][]impl.Entry{nil}
	for i := 0; i < len(all); i++ {
		if len(all[i]) == most {
			continue
		}
		for term := max(1, impl.LastTerm(all[i])); term <= 2; term++ {
			all = append(all, append(slices.Clone(all[i]), entry(term, "none")), append(slices.Clone(all[i]), entry(term, "ask 0 1")))
		}
	}
	return all
}

func TestAgreedOfAllSmallLogs(t *testing.T) {
	yes, no := 0, 0
	for _, a := range smallLogs(3) {
		for _, b := range smallLogs(3) {
			for commitOfA := range int64(len(a) + 1) {
				for commitOfB := range int64(len(b) + 1) {
					c := withLogs([]int64{commitOfA, commitOfB}, a, b)
					agreed := allAgreeByWords(c)
					if impl.Agreed(c) != agreed || !slices.Equal(impl.Longest(c), longestByWords(c)) {
						t.Fatalf("%+v: %v %q", c, impl.Agreed(c), impl.Longest(c))
					}
					if agreed {
						yes++
					} else {
						no++
					}
				}
			}
		}
	}
	if yes < 1000 || no < 1000 {
		t.Fatal(yes, no)
	}
}

func TestAgreedOfSomeClusters(t *testing.T) {
	r := numbersFrom(150)
	yes, no := 0, 0
	for range 4000 {
		c := someCluster(&r, 3)
		agreed := allAgreeByWords(c)
		checkAgreed(t, "some", c, agreed)
		if agreed {
			yes++
		} else {
			no++
		}
	}
	if yes < 400 || no < 400 {
		t.Fatal(yes, no)
	}
}

// TestAgreedIsNotOfTheNetwork: what is under way is not asked.
func TestAgreedIsNotOfTheNetwork(t *testing.T) {
	c := calmCluster(t, 3, 0)
	for _, net := range [][]impl.Message{
		{appends(1, 1, 2, 0, 0, 1, entry(1, "ask 0 1"))},
		{appends(7, 1, 2, -5, 9, 100, logOf(3, 9, 8, 7)...), {}, {Kind: -1, To: math.MaxInt64}},
		manyMessages(impl.MaxNet),
	} {
		checkAgreed(t, "strange messages", withNet(c, net...), true)
		if got := impl.Longest(withNet(c, net...)); !slices.Equal(got, []string{"none"}) {
			t.Fatal(got)
		}
	}
}

func TestLongestToTheLetter(t *testing.T) {
	log := textLog([]int64{1, 1, 2, 2}, "none", "weigh 0 1 5", "none", "ask 0 1")
	cases := []struct {
		name    string
		commits []int64
		want    []string
	}{
		{"none", []int64{0, 0, 0}, nil},
		{"the first one's", []int64{2, 0, 0}, []string{"none", "weigh 0 1 5"}},
		{"the middle one's", []int64{1, 3, 2}, []string{"none", "weigh 0 1 5", "none"}},
		{"the last one's", []int64{0, 1, 4}, []string{"none", "weigh 0 1 5", "none", "ask 0 1"}},
		{"two of one length", []int64{2, 1, 2}, []string{"none", "weigh 0 1 5"}},
		{"all of one length", []int64{3, 3, 3}, []string{"none", "weigh 0 1 5", "none"}},
		{"all of all", []int64{4, 4, 4}, []string{"none", "weigh 0 1 5", "none", "ask 0 1"}},
	}
	for _, c := range cases {
		cluster := withLogs(c.commits, log, log, log)
		checkAgreed(t, c.name, cluster, true)
		if got := impl.Longest(cluster); !slices.Equal(got, c.want) {
			t.Errorf("%s: %q, not %q", c.name, got, c.want)
		}
	}
	parted := withLogs([]int64{4, 4, 0}, log, log, textLog([]int64{1, 1}, "none", "ask 0 1"))
	checkAgreed(t, "parted behind what is agreed on", parted, false)
	if got := impl.Longest(parted); len(got) != 0 {
		t.Errorf("%q", got)
	}
}

// TestLongestHoweverOftenAsked: servers that tell at the same time tell the same each time, whoever is asked first.
func TestLongestHoweverOftenAsked(t *testing.T) {
	log := logOf(2, alike(impl.MaxLog, 3)...)
	for _, commits := range [][]int64{{0, 0, 0, 0, 0}, {7, 7, 7, 7, 7}, {0, 1, 2, 3, 4}, {impl.MaxLog, 1, impl.MaxLog, 0, impl.MaxLog}, {5, 4, 3, 2, impl.MaxLog}} {
		c := withLogs(commits, log, log, log, log, log)
		want := longestByWords(c)
		for range 400 {
			if got := impl.Longest(c); !slices.Equal(got, want) {
				t.Fatalf("%v: %q, not %q", commits, got, want)
			}
		}
	}
}

// TestLongestAskedAtTheSameTime: calls know nothing of one another.
func TestLongestAskedAtTheSameTime(t *testing.T) {
	log := logOf(2, alike(20, 3)...)
	c := withLogs([]int64{3, 9, 20}, log, log, log)
	parted := withLogs([]int64{3, 9, 20}, log, log, logOf(4, alike(20, 3)...))
	var all sync.WaitGroup
	wrong := make(chan []string, 16)
	for i := range 16 {
		all.Go(func() {
			for range 100 {
				got := impl.Longest([]impl.Cluster{c, parted}[i%2])
				if i%2 == 0 && len(got) != 20 || i%2 == 1 && len(got) != 0 {
					wrong <- got
					return
				}
			}
		})
	}
	all.Wait()
	close(wrong)
	for got := range wrong {
		t.Errorf("%q", got)
	}
}

// trueByWords is True by the words of the chapter, and whether there is such an answer.
func trueByWords(g impl.Graph, texts []string) ([]string, bool) {
	var answers []string
	arcs := slices.Clone(g.Arcs)
	taken := 0
	for _, text := range texts {
		c, is := readCommandByHand(text)
		if !is {
			return nil, false
		}
		if c.Kind == 3 {
			answers = append(answers, strconv.Itoa(taken)+" "+answerByWords(graph(g.Places, arcs...), c.From, c.To))
		}
		if c.Kind != 2 {
			continue
		}
		next := slices.Clone(arcs)
		there := 0
		for _, x := range c.Arcs {
			for i, y := range next {
				if x.From == y.From && x.To == y.To {
					next[i].Weight = x.Weight
					there++
				}
			}
		}
		if there < len(c.Arcs) {
			answers = append(answers, "no")
			continue
		}
		arcs = next
		taken++
		answers = append(answers, "ok "+strconv.Itoa(taken))
	}
	return answers, true
}

// servedByWords is Serve of a right map and texts that are commands', without the limits.
func servedByWords(g impl.Graph, texts []string) impl.Service {
	s := newService(g)
	for _, text := range texts {
		c, _ := readCommandByHand(text)
		s = appliedByWords(s, c)
	}
	return s
}

// checkServe holds Serve and True against the words, and the answers of the one against the other.
func checkServe(t *testing.T, name string, g impl.Graph, texts []string) impl.Service {
	t.Helper()
	s, is := impl.Serve(g, texts)
	told := impl.True(g, texts)
	want, right := trueByWords(g, texts)
	if is != right || !slices.Equal(told, want) {
		t.Fatalf("%s: %v, %q: %v and %q, not %v and %q", name, g, texts, is, told, right, want)
	}
	if !right {
		if !isZeroService(s) || len(told) != 0 {
			t.Fatalf("%s: %v, %q: %+v and %q", name, g, texts, s, told)
		}
		return s
	}
	if !sameService(s, servedByWords(g, texts)) || !impl.ServiceOk(s) || !slices.Equal(s.Answers, told) {
		t.Fatalf("%s: %v, %q: %+v, not %+v", name, g, texts, s, servedByWords(g, texts))
	}
	return s
}

// checkByApply holds Serve against NewService and Apply, one command behind the other.
func checkByApply(t *testing.T, name string, g impl.Graph, texts []string) {
	t.Helper()
	want, right := impl.NewService(g)
	for _, text := range texts {
		c, is := impl.ReadCommand(text)
		want = impl.Apply(want, c)
		right = right && is && impl.ServiceOk(want)
	}
	if !right {
		want = impl.Service{}
	}
	if s, is := impl.Serve(g, texts); is != right || !sameService(s, want) {
		t.Fatalf("%s: %v, %q: %+v %v, not %+v %v", name, g, texts, s, is, want, right)
	}
}

func TestServeAndTrueToTheLetter(t *testing.T) {
	line := graph(3, arc(0, 1, 2), arc(1, 2, 3))
	cases := []struct {
		name    string
		texts   []string
		version int64
		want    []string
	}{
		{"nothing", nil, 0, nil},
		{"an empty list", []string{}, 0, nil},
		{"none", []string{"none"}, 0, nil},
		{"none, and none", []string{"none", "none"}, 0, nil},
		{"an ask", []string{"ask 0 2"}, 0, []string{"0 5"}},
		{"an ask of a place of itself", []string{"ask 2 2"}, 0, []string{"0 0"}},
		{"an ask where there is no way", []string{"ask 2 0"}, 0, []string{"0 no"}},
		{"an ask of a place that is none", []string{"ask 0 3"}, 0, []string{"0 no"}},
		{"an ask from a place that is none", []string{"ask 3 0"}, 0, []string{"0 no"}},
		{"an ask of a place that is none, of itself", []string{"ask 23 23"}, 0, []string{"0 no"}},
		{"a weigh", []string{"weigh 0 1 9"}, 1, []string{"ok 1"}},
		{"a weigh that changes nothing", []string{"weigh 0 1 2"}, 1, []string{"ok 1"}},
		{"a weigh of an arc that is not there", []string{"weigh 1 0 9"}, 0, []string{"no"}},
		{"a weigh of places that are none", []string{"weigh 22 23 9"}, 0, []string{"no"}},
		{"a weigh of which the last arc is not there", []string{"weigh 0 1 9 1 2 9 2 0 9", "ask 0 2"}, 0, []string{"no", "0 5"}},
		{"a weigh of which the first arc is not there", []string{"weigh 2 0 9 0 1 9 1 2 9", "ask 0 2"}, 0, []string{"no", "0 5"}},
		{"a weigh of one arc twice", []string{"weigh 0 1 9 0 1 7", "ask 0 1"}, 1, []string{"ok 1", "1 7"}},
		{"a weigh and an ask behind it", []string{"weigh 0 1 9", "ask 0 2"}, 1, []string{"ok 1", "1 12"}},
		{"an ask ahead of a weigh, and one behind it", []string{"ask 0 2", "weigh 1 2 1", "ask 0 2"}, 1, []string{"0 5", "ok 1", "1 3"}},
		{"weighs of which some are taken", []string{"weigh 0 1 9", "weigh 1 0 9", "weigh 1 2 8", "weigh 2 1 8", "weigh 0 1 1"}, 3, []string{"ok 1", "no", "ok 2", "no", "ok 3"}},
		{"asks between them", []string{"weigh 1 0 9", "ask 0 2", "weigh 0 1 9", "ask 0 2", "weigh 0 2 9", "ask 0 2", "weigh 1 2 8", "ask 0 2"}, 2, []string{"no", "0 5", "ok 1", "1 12", "no", "1 12", "ok 2", "2 17"}},
		{"it goes on behind no", []string{"ask 5 5", "weigh 5 6 1", "none", "weigh 0 1 4", "ask 0 5", "ask 0 1"}, 1, []string{"0 no", "no", "ok 1", "1 no", "1 4"}},
		{"the greatest Weights", []string{"weigh 0 1 1000000 1 2 1000000", "ask 0 2"}, 1, []string{"ok 1", "1 2000000"}},
		{"each Kind", []string{"none", "ask 0 1", "none", "weigh 0 1 1", "none"}, 1, []string{"0 2", "ok 1"}},
	}
	for _, c := range cases {
		s := checkServe(t, c.name, line, c.texts)
		checkByApply(t, c.name, line, c.texts)
		if s.Version != c.version || !slices.Equal(s.Answers, c.want) {
			t.Errorf("%s: Version %d, %q, not %d, %q", c.name, s.Version, s.Answers, c.version, c.want)
		}
		if got := impl.True(line, c.texts); !slices.Equal(got, c.want) {
			t.Errorf("%s: %q, not %q", c.name, got, c.want)
		}
	}
}

func TestServeAndTrueOfOneAndOfMaxBatchArcs(t *testing.T) {
	g := ring(impl.MaxPlaces, 7)
	batch := commandByHand(weigh(allWeighed(graph(g.Places, g.Arcs[:impl.MaxBatch]...), 1).Arcs...))
	s := checkServe(t, "MaxBatch", g, []string{batch, "ask 0 10", "ask 0 11"})
	if !slices.Equal(s.Answers, []string{"ok 1", "1 10", "1 17"}) {
		t.Fatal(s.Answers)
	}
	s = checkServe(t, "MaxBatch and 1", g, []string{"ask 0 10", batch + " 10 11 1"})
	if !isZeroService(s) {
		t.Fatal(s)
	}
	if one := checkServe(t, "one place", graph(1), []string{"ask 0 0", "ask 0 1", "weigh 0 1 1", "none"}); !slices.Equal(one.Answers, []string{"0 0", "0 no", "no"}) {
		t.Fatal(one.Answers)
	}
}

func TestServeAndTrueOfTextsThatAreNoCommands(t *testing.T) {
	g := ring(4, 7)
	right := []string{"none", "ask 0 2", "weigh 0 1 5", "weigh 1 0 5", "ask 0 2"}
	for _, text := range append(otherTexts(), markedText, "ask 0 2 ", "weigh 0 1 5 ", "ok 1", "0 14") {
		if s := checkServe(t, "alone", g, []string{text}); !isZeroService(s) {
			t.Fatalf("%q: %+v", text, s)
		}
		for at := range len(right) + 1 {
			texts := slices.Insert(slices.Clone(right), at, text)
			if s := checkServe(t, "among others", g, texts); !isZeroService(s) {
				t.Fatalf("%q: %+v", texts, s)
			}
			checkByApply(t, "among others", g, texts)
			texts = slices.Clone(right)
			texts[min(at, len(right)-1)] = text
			checkServe(t, "in the place of another", g, texts)
		}
	}
}

func TestServeAndTrueOfWrongMaps(t *testing.T) {
	log := []impl.Entry{entry(1, "none"), entry(1, "ask 0 0")}
	for name, g := range wrongGraphs() {
		for _, texts := range [][]string{nil, {}, {"none"}, {"ask 0 0"}, {"ask 0 1", "weigh 0 1 5"}, {"weigh 1 0 5"}, {""}, {"none", "wrong"}} {
			s, is := impl.Serve(g, texts)
			if told := impl.True(g, texts); is || !isZeroService(s) || len(told) != 0 {
				t.Fatalf("%s: %q: %+v %v and %q", name, texts, s, is, told)
			}
			checkByApply(t, name, g, texts)
		}
		for _, commit := range []int64{0, 1, 2} {
			refuseServed(t, name, withLogs([]int64{commit, 0}, log, log), g, 0, 1)
		}
	}
}

// someTexts are of commands of which many do something to the map, and some are answered with no.
func someTexts(n *numbersFrom, g impl.Graph, count int64) []string {
	texts := make([]string, count)
	for i := range texts {
		texts[i] = commandByHand(someCommand(n, g))
	}
	return texts
}

// TestTrueIsWhatAServiceAnswers is the last part of promise 13, of any texts.
func TestTrueIsWhatAServiceAnswers(t *testing.T) {
	n := numbersFrom(151)
	for name, g := range orderGraphs() {
		checkServe(t, name, g, someTexts(&n, g, 12))
	}
	for name, g := range rightGraphs() {
		texts := someTexts(&n, g, 8)
		checkServe(t, name, g, texts)
		checkByApply(t, name, g, texts)
	}
	for round := range int64(120) {
		g := someGraph(&n, 2+n.below(7), 1+n.below(20))
		texts := someTexts(&n, g, round%60)
		whole := checkServe(t, "made", g, texts)
		for _, cut := range []int64{0, round % 60 / 2, round % 60} {
			part := checkServe(t, "a part", g, texts[:cut])
			if !slices.Equal(part.Answers, whole.Answers[:len(part.Answers)]) {
				t.Fatalf("%v, %q: %q does not begin %q", g, texts, part.Answers, whole.Answers)
			}
		}
	}
}

// TestServeUpToMaxVersion: there is room for that many answers and Versions; True has no limit.
func TestServeUpToMaxVersion(t *testing.T) {
	const most = impl.MaxVersion
	g := graph(2, arc(0, 1, 4))
	for _, c := range []struct {
		text    string
		version int64
		last    string
		over    string
	}{{"ask 0 0", 0, "0 0", "0 0"}, {"ask 1 0", 0, "0 no", "0 no"}, {"weigh 0 1 5", most, "ok 100000", "ok 100001"}, {"weigh 1 0 5", 0, "no", "no"}} {
		texts := slices.Repeat([]string{c.text}, most)
		s, is := impl.Serve(g, texts)
		if !is || s.Version != c.version || len(s.Answers) != most || s.Answers[most-1] != c.last || !slices.Equal(s.Answers, impl.True(g, texts)) {
			t.Fatalf("%s: Version %d, %d answers, %v", c.text, s.Version, len(s.Answers), is)
		}
		if s, is := impl.Serve(g, append(texts, "none", "none")); !is || len(s.Answers) != most {
			t.Fatalf("%s, and none: %d answers, %v", c.text, len(s.Answers), is)
		}
		for _, more := range []string{"ask 0 0", "weigh 0 1 5", "weigh 1 0 5", "wrong"} {
			if s, is := impl.Serve(g, append(texts, more)); is || !isZeroService(s) {
				t.Fatalf("%s, and %s: %d answers", c.text, more, len(s.Answers))
			}
		}
		if told := impl.True(g, append(texts, c.text)); len(told) != most+1 || told[most] != c.over {
			t.Fatalf("%s: %d answers", c.text, len(told))
		}
		if s, is := impl.Serve(g, append([]string{"none"}, texts[1:]...)); !is || len(s.Answers) != most-1 {
			t.Fatalf("%s: %d answers", c.text, len(s.Answers))
		}
	}
}

func TestServedToTheLetter(t *testing.T) {
	g := graph(2, arc(0, 1, 4))
	log := textLog([]int64{1, 1, 1, 2, 2}, "none", "weigh 0 1 6", "ask 0 1", "none", "ask 1 0")
	c := withLogs([]int64{0, 1, 2, 3, 5}, log[:1], log, log, log, log)
	for node, want := range [][]string{nil, nil, {"ok 1"}, {"ok 1", "1 6"}, {"ok 1", "1 6", "1 no"}} {
		s, is := impl.Served(c, int64(node), g)
		if !is || !slices.Equal(s.Answers, want) || !sameService(s, servedByWords(g, partTexts(c.Nodes[node]))) {
			t.Fatalf("%d: %+v %v", node, s, is)
		}
	}
	refuseServed(t, "no such server", c, g, append(farNumbers(5), -5, 6, 1<<32+1, 1<<40)...)
	for peers := int64(1); peers <= impl.MaxPeers; peers++ {
		small := calmCluster(t, peers, 0)
		refuseServed(t, peers, small, g, farNumbers(peers)...)
		for node := range peers {
			if s, is := impl.Served(small, node, g); !is || !sameService(s, newService(g)) {
				t.Fatalf("%d of %d: %+v %v", node, peers, s, is)
			}
		}
	}
	refuseServed(t, "the zero Cluster", impl.Cluster{}, g, append(farNumbers(0), 0, 1)...)
}

// TestServedIsOfTheAgreedPartAlone: what stands behind Commit is not served, whatever it is.
func TestServedIsOfTheAgreedPartAlone(t *testing.T) {
	g := graph(2, arc(0, 1, 4))
	part := textLog([]int64{1, 1}, "none", "ask 0 1")
	for _, behind := range [][]impl.Entry{nil, {entry(1, "ask 1 0")}, {entry(2, "weigh 0 1 9")}, {entry(2, "weigh 0 1 9"), entry(3, "ask 0 1")}} {
		c := withLogs([]int64{2, 2, 1}, append(slices.Clone(part), behind...), part, part)
		for node, want := range [][]string{{"0 4"}, {"0 4"}, nil} {
			if s, is := impl.Served(c, int64(node), g); !is || s.Version != 0 || !slices.Equal(s.Answers, want) {
				t.Fatalf("%+v: %+v %v", c, s, is)
			}
		}
	}
}

func TestServedOfWhatIsNotAgreed(t *testing.T) {
	log, other := textLog([]int64{1, 1}, "none", "ask 0 1"), textLog([]int64{1, 1}, "none", "ask 0 0")
	// The servers whose logs part are not those that are asked.
	c := withLogs([]int64{1, 1, 1}, log[:1], log, other)
	checkAgreed(t, "two logs", c, false)
	refuseServed(t, "two logs", c, graph(2), 0, 1, 2)
	led := withNode(withNode(withLogs(alike(4, 0), nil, nil, nil, nil), newLeader(1, 4, 9)), newLeader(3, 4, 9))
	checkAgreed(t, "two lead", led, false)
	refuseServed(t, "two lead", led, graph(2), 0, 1, 2, 3)
}

// oneOrder holds promise 13 over a whole script: who led in a Term, and what was agreed on at each number.
type oneOrder struct {
	g      impl.Graph
	c      impl.Cluster
	led    map[int64]int64
	agreed []impl.Entry
	texts  []string
	served int
	late   func(m impl.Message) bool
}

func newOrder(peers int64, g impl.Graph) *oneOrder {
	return &oneOrder{g: g, c: newCluster(peers), led: map[int64]int64{}}
}

// do does one op, and asks all that is promised behind it.
func (o *oneOrder) do(t *testing.T, op impl.Op) int64 {
	t.Helper()
	ahead := o.c
	c, told := impl.Do(ahead, op)
	if !impl.Agreed(c) {
		t.Fatalf("%+v: not agreed: %+v, was %+v", op, c, ahead)
	}
	o.c = c
	o.checkLongest(t)
	for i, n := range c.Nodes {
		o.checkLeads(t, n)
		if n.Commit != ahead.Nodes[i].Commit {
			o.checkPart(t, n)
			o.checkServed(t, n)
		}
	}
	return told
}

func (o *oneOrder) checkLeads(t *testing.T, n impl.Node) {
	t.Helper()
	if n.Role != impl.RlLead {
		return
	}
	if id, has := o.led[n.Term]; has && id != n.Id {
		t.Fatalf("two lead in Term %d: %d and %d", n.Term, id, n.Id)
	}
	o.led[n.Term] = n.Id
}

// checkLongest: it may become shorter, where servers stop, but never another.
func (o *oneOrder) checkLongest(t *testing.T) {
	t.Helper()
	texts := impl.Longest(o.c)
	both := min(len(texts), len(o.texts))
	if !slices.Equal(texts[:both], o.texts[:both]) {
		t.Fatalf("%q was agreed on, and %q is", o.texts, texts)
	}
	o.texts = append(o.texts, texts[both:]...)
}

// checkPart asks the same of the entries of one server, against what any had agreed on.
func (o *oneOrder) checkPart(t *testing.T, n impl.Node) {
	t.Helper()
	part := n.Log[:n.Commit]
	both := min(len(part), len(o.agreed))
	if !slices.Equal(part[:both], o.agreed[:both]) {
		t.Fatalf("%v was agreed on, and %v is, by server %d", o.agreed, part, n.Id)
	}
	o.agreed = append(o.agreed, part[both:]...)
}

func (o *oneOrder) checkServed(t *testing.T, n impl.Node) {
	t.Helper()
	s, is := impl.Served(o.c, n.Id, o.g)
	if want := impl.True(o.g, partTexts(n)); !is || !slices.Equal(s.Answers, want) {
		t.Fatalf("%q %v, not %q", s.Answers, is, want)
	}
	all := impl.True(o.g, impl.Longest(o.c))
	if len(all) < len(s.Answers) || !slices.Equal(s.Answers, all[:len(s.Answers)]) {
		t.Fatalf("%q does not begin %q", s.Answers, all)
	}
	o.served += len(s.Answers)
}

// each delivers those messages that shall come, in order, until none of them is under way; all else is lost, but for what is late.
func (o *oneOrder) each(t *testing.T, comes func(m impl.Message) bool) {
	t.Helper()
	for at := 0; at < len(o.c.Net); {
		switch m := o.c.Net[at]; {
		case o.late != nil && o.late(m):
			at++
		case comes(m):
			o.do(t, opDeliver(int64(at)))
		default:
			o.do(t, opLose(int64(at)))
		}
	}
}

// lateCome delivers what was late, and nothing that is answered to it.
func (o *oneOrder) lateCome(t *testing.T) {
	t.Helper()
	late := o.late
	o.late = nil
	if !slices.ContainsFunc(o.c.Net, late) {
		t.Fatalf("nothing is late: %+v", o.c.Net)
	}
	o.each(t, late)
}

// allCome delivers what is from and to these servers.
func (o *oneOrder) allCome(t *testing.T, servers ...int64) {
	t.Helper()
	o.each(t, func(m impl.Message) bool { return slices.Contains(servers, m.From) && slices.Contains(servers, m.To) })
}

// leads has a server stand until it leads, by the votes of these servers alone; what it sends then is lost.
func (o *oneOrder) leads(t *testing.T, id int64, others ...int64) {
	t.Helper()
	for range 5 {
		o.do(t, opTime(id))
		o.each(t, func(m impl.Message) bool {
			return m.Kind == impl.MsVote && slices.Contains(others, m.To) || m.Kind == impl.MsVoted && slices.Contains(others, m.From)
		})
		if o.c.Nodes[id].Role == impl.RlLead {
			return
		}
	}
	t.Fatalf("%d does not lead: %+v", id, o.c)
}

func (o *oneOrder) beats(t *testing.T, id int64, times int, others ...int64) {
	t.Helper()
	for range times {
		o.do(t, opBeat(id))
		o.allCome(t, append(others, id)...)
	}
}

func (o *oneOrder) tells(t *testing.T, id int64, texts ...string) {
	t.Helper()
	for _, text := range texts {
		if o.do(t, opTell(id, text)) < 1 {
			t.Fatalf("%d: %q: %+v", id, text, o.c)
		}
	}
}

// fiveOfTermOne is a group of five in which servers 0 and 1 have five entries of Term 1 that the others do not have, and server 4 one of Term 2.
func fiveOfTermOne(t *testing.T) *oneOrder {
	t.Helper()
	o := newOrder(5, ring(4, 7))
	o.leads(t, 0, 1, 2, 3, 4)
	o.beats(t, 0, 2, 1, 2, 3, 4)
	o.tells(t, 0, "weigh 0 1 1", "ask 0 1", "weigh 0 1 2", "ask 0 1", "ask 0 2")
	o.beats(t, 0, 1, 1)
	o.do(t, opStop(0))
	o.leads(t, 4, 2, 3)
	o.tells(t, 4, "weigh 0 1 9")
	o.do(t, opStop(4))
	o.leads(t, 0, 1, 2)
	// Two Beats: the first one learns how far back server 2 is, the second one brings the five entries, but not the one of Term 3.
	o.beats(t, 0, 2, 2)
	if n := o.c.Nodes[2]; len(n.Log) != 6 || impl.LastTerm(n.Log) != 1 || o.c.Nodes[0].Match[2] != 6 {
		t.Fatalf("%+v", o.c)
	}
	return o
}

// TestEntriesOfAnOlderTermMayStillGo: a majority has the entries of Term 1, and yet they are not agreed on, for server 4 can still lead.
func TestEntriesOfAnOlderTermMayStillGo(t *testing.T) {
	o := fiveOfTermOne(t)
	o.beats(t, 0, 1, 1)
	if n := o.c.Nodes[0]; n.Match[1] != 7 || n.Match[2] != 6 || n.Commit != 0 {
		t.Fatalf("%+v", n)
	}
	o.do(t, opStop(0))
	o.leads(t, 4, 2, 3)
	o.beats(t, 4, 9, 0, 1, 2, 3)
	if want := []string{"none", "none", "weigh 0 1 9", "none"}; !slices.Equal(o.texts, want) || !slices.Equal(impl.Longest(o.c), want) {
		t.Fatalf("%q", o.texts)
	}
	for node := range int64(5) {
		if s, is := impl.Served(o.c, node, o.g); !is || !slices.Equal(s.Answers, []string{"ok 1"}) {
			t.Fatalf("%+v %v", s, is)
		}
	}
}

// TestEntriesOfAnOlderTermComeWithOneOfTheNew: once an entry of Term 3 is agreed on, those ahead of it are, and server 4 leads no more.
func TestEntriesOfAnOlderTermComeWithOneOfTheNew(t *testing.T) {
	o := fiveOfTermOne(t)
	o.beats(t, 0, 2, 1, 2)
	if o.c.Nodes[0].Commit != 7 || len(o.texts) != 7 {
		t.Fatalf("%+v", o.c)
	}
	o.do(t, opStop(0))
	for range 6 {
		o.do(t, opTime(4))
		o.allCome(t, 1, 2, 3, 4)
		if o.c.Nodes[4].Role == impl.RlLead {
			t.Fatalf("%+v", o.c)
		}
	}
	o.leads(t, 2, 3, 4)
	o.beats(t, 2, 9, 0, 1, 3, 4)
	if len(o.texts) != 8 || o.texts[5] != "ask 0 2" || !slices.Equal(impl.Longest(o.c), o.texts) {
		t.Fatalf("%q", o.texts)
	}
	for node := range int64(5) {
		if s, is := impl.Served(o.c, node, o.g); !is || !slices.Equal(s.Answers, []string{"ok 1", "1 1", "ok 2", "2 2", "2 9"}) {
			t.Fatalf("%+v %v", s, is)
		}
	}
}

// groupOf is one in which server 0 leads in Term 1, and all know that they have its entry.
func groupOf(t *testing.T, peers int64) *oneOrder {
	t.Helper()
	o := newOrder(peers, ring(4, 7))
	o.leads(t, 0, upTo(peers)[1:]...)
	o.beats(t, 0, 2, upTo(peers)[1:]...)
	if !slices.Equal(impl.Longest(o.c), []string{"none"}) || o.c.Nodes[peers-1].Commit != 1 {
		t.Fatalf("%+v", o.c)
	}
	return o
}

// wants asks that just this is agreed on by the end, by these servers.
func (o *oneOrder) wants(t *testing.T, texts []string, servers ...int64) {
	t.Helper()
	if !slices.Equal(impl.Longest(o.c), texts) || !slices.Equal(o.texts, texts) {
		t.Fatalf("%q, and %q over all, not %q", impl.Longest(o.c), o.texts, texts)
	}
	for _, id := range servers {
		if !slices.Equal(partTexts(o.c.Nodes[id]), texts) {
			t.Fatalf("%+v, not %q", o.c.Nodes[id], texts)
		}
	}
}

// TestAgreedNoFurtherThanAMessageReaches: answers that come twice bring the Next of server 0 too far back, so that a message ends ahead of where its Log is another one.
func TestAgreedNoFurtherThanAMessageReaches(t *testing.T) {
	o := groupOf(t, 3)
	o.tells(t, 0, "ask 0 1", "ask 0 2", "ask 0 3", "ask 1 0", "ask 2 0")
	o.beats(t, 0, 2, 1, 2)
	o.tells(t, 0, slices.Repeat([]string{"weigh 0 1 1"}, 6)...)
	o.leads(t, 1, 2)
	o.tells(t, 1, slices.Repeat([]string{"weigh 0 1 9"}, 4)...)
	o.beats(t, 1, 1, 2)
	o.do(t, opStop(1))
	o.leads(t, 1, 2)
	o.beats(t, 1, 3, 2)
	o.do(t, opBeat(1))
	o.late = func(m impl.Message) bool { return m.Kind == impl.MsAppended && m.From == 0 }
	o.allCome(t, 0, 1)
	for range 9 {
		o.do(t, opTwice(0))
	}
	o.lateCome(t)
	o.do(t, opBeat(1))
	if m := o.c.Net[0]; m.To != 0 || m.Index >= 6 || len(m.Entries) != impl.MaxSend || m.Commit != 12 || len(o.c.Nodes[0].Log) != 12 {
		t.Fatalf("%+v", o.c)
	}
	o.allCome(t, 0, 1, 2)
	o.beats(t, 1, 4, 0, 2)
	want := []string{"none", "ask 0 1", "ask 0 2", "ask 0 3", "ask 1 0", "ask 2 0", "none", "weigh 0 1 9", "weigh 0 1 9", "weigh 0 1 9", "weigh 0 1 9", "none"}
	o.wants(t, want, 0, 1, 2)
}

// TestVotesOfAnEarlierTermComeLate: in Term 2 server 1 votes for 2; that it voted for 0 in Term 1 comes only then.
func TestVotesOfAnEarlierTermComeLate(t *testing.T) {
	o := newOrder(3, ring(4, 7))
	o.late = func(m impl.Message) bool { return m.Kind == impl.MsVoted && m.Term == 1 && m.From == 1 && m.To == 0 }
	o.do(t, opTime(0))
	o.allCome(t, 0, 1)
	o.do(t, opTime(0))
	o.allCome(t)
	o.do(t, opTime(2))
	o.allCome(t)
	o.leads(t, 2, 1)
	if o.c.Nodes[0].Term != 2 || o.c.Nodes[0].Role != impl.RlStand || o.c.Nodes[2].Term != 2 {
		t.Fatalf("%+v", o.c)
	}
	o.lateCome(t)
	if o.c.Nodes[0].Role != impl.RlStand {
		t.Fatalf("%+v", o.c)
	}
	o.beats(t, 2, 3, 0, 1)
	o.wants(t, []string{"none"}, 0, 1, 2)
}

// TestEntriesOfAnEarlierTermComeLate: server 2 has the entry of Term 2, and does not know yet that it is agreed on.
func TestEntriesOfAnEarlierTermComeLate(t *testing.T) {
	o := groupOf(t, 3)
	o.tells(t, 0, "weigh 0 1 1")
	o.late = func(m impl.Message) bool { return m.Kind == impl.MsAppend && m.Term == 1 && m.To == 2 }
	o.beats(t, 0, 1)
	o.leads(t, 1, 2)
	o.beats(t, 1, 1, 2)
	if o.c.Nodes[1].Commit != 2 || o.c.Nodes[2].Commit != 1 {
		t.Fatalf("%+v", o.c)
	}
	o.lateCome(t)
	o.do(t, opStop(1))
	for range 4 {
		o.do(t, opTime(0))
		o.allCome(t, 0, 2)
	}
	o.leads(t, 2, 0)
	o.beats(t, 2, 4, 0, 1)
	o.wants(t, []string{"none", "none", "none"}, 0, 1, 2)
}

// TestAnswersOfAnEarlierTermComeLate: what server 1 had in Term 1 is no more, neither there nor at server 0, which leads anew with a Log as long as that.
func TestAnswersOfAnEarlierTermComeLate(t *testing.T) {
	o := groupOf(t, 5)
	o.tells(t, 0, slices.Repeat([]string{"weigh 0 1 1"}, 5)...)
	o.late = func(m impl.Message) bool { return m.Kind == impl.MsAppended && m.Term == 1 && m.From == 1 }
	o.beats(t, 0, 1, 1)
	o.leads(t, 2, 3, 4)
	o.beats(t, 2, 1, 0, 1)
	if len(o.c.Nodes[0].Log) != 2 || len(o.c.Nodes[1].Log) != 2 || o.c.Nodes[2].Commit != 2 {
		t.Fatalf("%+v", o.c)
	}
	o.leads(t, 0, 3, 4)
	o.tells(t, 0, "weigh 0 1 2", "weigh 0 1 2", "weigh 0 1 2")
	o.beats(t, 0, 2, 3)
	if len(o.c.Nodes[3].Log) != 6 || o.c.Nodes[0].Commit > 2 {
		t.Fatalf("%+v", o.c)
	}
	o.lateCome(t)
	o.do(t, opStop(2))
	o.leads(t, 2, 1, 4)
	o.beats(t, 2, 9, 0, 1, 3, 4)
	o.wants(t, []string{"none", "none", "none"}, upTo(5)...)
}

// TestFewerEntriesComeLate: a message that tells of one entry comes behind the one that told of two, which both are agreed on.
func TestFewerEntriesComeLate(t *testing.T) {
	o := groupOf(t, 3)
	o.tells(t, 0, "weigh 0 1 1")
	o.late = func(m impl.Message) bool { return m.Kind == impl.MsAppend && len(m.Entries) == 1 && m.To == 1 }
	o.beats(t, 0, 1)
	o.tells(t, 0, "weigh 0 1 2")
	o.beats(t, 0, 1, 1)
	if o.c.Nodes[0].Commit != 3 || o.c.Nodes[1].Commit != 1 {
		t.Fatalf("%+v", o.c)
	}
	o.lateCome(t)
	o.do(t, opStop(0))
	o.leads(t, 1, 2)
	o.beats(t, 1, 4, 0, 2)
	o.wants(t, []string{"none", "weigh 0 1 1", "weigh 0 1 2", "none"}, 0, 1, 2)
}

// TestOneVoteThoughItStopped: a server that voted, stopped and began anew votes for no other in that Term.
func TestOneVoteThoughItStopped(t *testing.T) {
	o := newOrder(3, ring(4, 7))
	o.do(t, opTime(0))
	o.do(t, opTime(2))
	o.do(t, opDeliver(0))
	o.do(t, opStop(1))
	for i := len(o.c.Net) - 1; i >= 0; i-- {
		if m := o.c.Net[i]; m.Kind == impl.MsVote && m.To == 1 {
			o.do(t, opTwice(int64(i)))
			o.do(t, opDeliver(int64(i)))
		}
	}
	o.allCome(t, 0, 1, 2)
	if o.c.Nodes[0].Role != impl.RlLead || o.c.Nodes[2].Role == impl.RlLead || len(o.led) != 1 {
		t.Fatalf("%+v", o.c)
	}
}

// TestVotesThatComeTwiceAreOne: of four and of five, one more than the server itself is no majority.
func TestVotesThatComeTwiceAreOne(t *testing.T) {
	for _, peers := range []int64{4, 5} {
		o := newOrder(peers, ring(4, 7))
		o.do(t, opTime(0))
		o.do(t, opDeliver(0))
		for range 5 {
			o.do(t, opTwice(int64(len(o.c.Net)-1)))
		}
		o.do(t, opTime(peers-1))
		for i := len(o.c.Net) - 1; i >= 0; i-- {
			if o.c.Net[i].Kind == impl.MsVoted {
				o.do(t, opDeliver(int64(i)))
			}
		}
		if o.c.Nodes[0].Role != impl.RlStand || len(o.c.Nodes[0].Votes) != 2 {
			t.Fatalf("%+v", o.c)
		}
		o.allCome(t, upTo(peers)...)
		if len(o.led) > 1 {
			t.Fatalf("%+v", o.led)
		}
	}
}

// TestOldMessagesChangeNothingThatIsAgreedOn: all that was ever sent comes once more, in any order.
func TestOldMessagesChangeNothingThatIsAgreedOn(t *testing.T) {
	r := numbersFrom(152)
	for _, backwards := range []bool{false, true} {
		o := newOrder(3, ring(4, 7))
		o.do(t, opTime(0))
		for lead := range int64(3) {
			for len(o.c.Net) < 150 && o.c.Nodes[lead].Role != impl.RlLead {
				o.do(t, opTwice(r.below(int64(len(o.c.Net)))))
				o.do(t, opDeliver(r.below(int64(len(o.c.Net)))))
			}
			for number := range int64(6) {
				o.do(t, opTell(lead, "weigh 0 1 "+strconv.FormatInt(1+10*lead+number, 10)))
				o.do(t, opBeat(lead))
				o.do(t, opTwice(int64(len(o.c.Net)-1)))
				o.do(t, opDeliver(int64(len(o.c.Net)-2)))
			}
			o.do(t, opTime((lead+1)%3))
		}
		for len(o.c.Net) > 0 {
			at := int64(0)
			if backwards {
				at = int64(len(o.c.Net)) - 1
			}
			o.do(t, opDeliver(at))
		}
	}
}

// wildText is a command of which the texts of two servers are mostly unlike.
func wildText(r *numbersFrom) string {
	switch r.below(6) {
	case 0:
		return "weigh 1 0 5"
	case 1:
		return "ask " + strconv.FormatInt(r.below(5), 10) + " " + strconv.FormatInt(r.below(5), 10)
	case 2, 3:
		return "ask 0 2"
	}
	return "weigh " + []string{"0 1 ", "1 2 ", "2 3 ", "3 0 "}[r.below(4)] + strconv.FormatInt(1+r.below(1000), 10)
}

// wildOp is one of a script by which much comes about, and much goes wrong.
func wildOp(r *numbersFrom, c impl.Cluster, quiet int64) impl.Op {
	op := lifeOp(r, c, quiet)
	if op.Kind == impl.OpTell && r.below(10) > 0 {
		return wildTell(r, c)
	}
	return op
}

// wildTell is mostly to one that leads: the others refuse it.
func wildTell(r *numbersFrom, c impl.Cluster) impl.Op {
	op := opTell(r.below(int64(len(c.Nodes))), wildText(r))
	for _, n := range c.Nodes {
		if n.Role == impl.RlLead && r.below(2) == 0 {
			op.Node = n.Id
		}
	}
	return op
}

// TestOneOrder is promise 13: of new clusters, whatever is lost, doubled, reordered, and whoever stops.
func TestOneOrder(t *testing.T) {
	r := numbersFrom(153)
	led, agreed, served := 0, 0, 0
	for round := range 1200 {
		o := newOrder(int64(1+round%impl.MaxPeers), ring(4, 1+r.below(9)))
		quiet := 14 + r.below(90)
		for range 50 + r.below(impl.MaxOps-50) {
			o.do(t, wildOp(&r, o.c, quiet))
		}
		led += len(o.led)
		agreed += len(o.texts)
		served += o.served
	}
	if led < 1500 || agreed < 2500 || served < 10000 {
		t.Fatalf("too little came about: %d led, %d agreed on, %d answers", led, agreed, served)
	}
}

// TestOneOrderOfLongLives: scripts that are longer than one Play takes, in which logs become full.
func TestOneOrderOfLongLives(t *testing.T) {
	r := numbersFrom(154)
	full := 0
	for round := range 8 {
		o := newOrder(int64(1+round%4), ring(4, 7))
		quiet := 30 + r.below(90)
		for range 1500 {
			if r.below(4) == 0 {
				o.do(t, wildTell(&r, o.c))
			}
			o.do(t, wildOp(&r, o.c, quiet))
		}
		for _, n := range o.c.Nodes {
			if len(n.Log) == impl.MaxLog {
				full++
			}
		}
	}
	if full == 0 {
		t.Fatal("no log became full")
	}
}

// TestOneOrderOfTwoSides: servers are cut off from one another, in sides that change; each side may go on by itself.
func TestOneOrderOfTwoSides(t *testing.T) {
	r := numbersFrom(155)
	led, agreed := 0, 0
	for round := range 500 {
		peers := int64(2 + round%4)
		o := newOrder(peers, ring(4, 7))
		for range 6 {
			side := r.below(1 << peers)
			for range 100 {
				o.sided(t, &r, side)
			}
		}
		led += len(o.led)
		agreed += len(o.texts)
	}
	if led < 1000 || agreed < 1500 {
		t.Fatalf("too little came about: %d led, %d agreed on", led, agreed)
	}
}

// sided does one op; a message from one side to the other is mostly lost, or stays under way for long.
func (o *oneOrder) sided(t *testing.T, r *numbersFrom, side int64) {
	t.Helper()
	op := wildOp(r, o.c, 50)
	if op.Kind == impl.OpDeliver && isNumber(op.Index, len(o.c.Net)) {
		m := o.c.Net[op.Index]
		if side>>m.From&1 != side>>m.To&1 {
			if r.below(4) == 0 {
				return
			}
			op.Kind = impl.OpLose
		}
	}
	o.do(t, op)
}

// TestCalmKeepsOneOrder: behind Calm it is agreed, too, and all servers that follow tell the same answers as the one that leads.
func TestCalmKeepsOneOrder(t *testing.T) {
	r := numbersFrom(156)
	same := 0
	for round := range 100 {
		peers := int64(1 + round%impl.MaxPeers)
		o := newOrder(peers, ring(4, 7))
		for range r.below(200) {
			o.do(t, wildOp(&r, o.c, 40))
		}
		for lead := range peers {
			c := o.c
			for range 10 {
				c = impl.Calm(c, lead)
				if !impl.Agreed(c) {
					t.Fatalf("%+v", c)
				}
				texts := impl.Longest(c)
				both := min(len(texts), len(o.texts))
				if !slices.Equal(texts[:both], o.texts[:both]) {
					t.Fatalf("%q was agreed on, and %q is", o.texts, texts)
				}
			}
			if c.Nodes[lead].Role != impl.RlLead {
				continue
			}
			want := impl.True(o.g, impl.Longest(c))
			for node := range peers {
				if s, is := impl.Served(c, node, o.g); c.Nodes[node].Commit == c.Nodes[lead].Commit && (!is || !slices.Equal(s.Answers, want)) {
					t.Fatalf("%q %v, not %q", s.Answers, is, want)
				}
				same++
			}
		}
	}
	if same < 100 {
		t.Fatal(same)
	}
}

// TestTwoOrdersAreSeen: a change to one entry, or one that leads beside another, of a cluster that came by a script, is what the words say of it.
func TestTwoOrdersAreSeen(t *testing.T) {
	r := numbersFrom(157)
	no := 0
	for round := range 300 {
		peers := int64(2 + round%4)
		_, c := lifeOf(t, &r, peers, 30+r.below(150))
		checkAgreed(t, "a life", c, true)
		for range 6 {
			other := cloneCluster(c)
			n := &other.Nodes[r.below(peers)]
			switch what := r.below(4); {
			case what == 0:
				other.Nodes[n.Id] = leader(n.Id, peers, n.Term, n.Log, alike(int(peers), 1), alike(int(peers), 0))
			case len(n.Log) == 0:
				continue
			case what == 1:
				n.Log[r.below(int64(len(n.Log)))].Text = "ask 9 9"
			case what == 2:
				at := r.below(int64(len(n.Log)))
				n.Log[at].Term = max(1, n.Log[at].Term-r.below(2))
			default:
				n.Commit = r.below(int64(len(n.Log)) + 1)
			}
			agreed := allAgreeByWords(other)
			checkAgreed(t, "a life, changed", other, agreed)
			if !agreed {
				no++
			}
		}
	}
	if no < 300 {
		t.Fatal(no)
	}
}

// answersOf are all that the functions of the chapter answer of a cluster, of a map and of texts.
func answersOf(c impl.Cluster, node int64, g impl.Graph, texts []string) ([]impl.Service, [][]string) {
	impl.Agreed(c)
	one, _ := impl.Serve(g, texts)
	other, _ := impl.Served(c, node, g)
	return []impl.Service{one, other}, [][]string{impl.Longest(c), impl.True(g, texts)}
}

func sameAnswers(services []impl.Service, lists [][]string, others []impl.Service, otherLists [][]string) bool {
	return slices.EqualFunc(services, others, sameService) && slices.EqualFunc(lists, otherLists, slices.Equal[[]string])
}

// checkNewAnswers asks that what is answered is new memory each time, and that the arguments stay.
func checkNewAnswers(t *testing.T, c impl.Cluster, node int64, g impl.Graph, texts []string) {
	t.Helper()
	w := watchCluster(c, nil)
	arcs, list := watch(g.Arcs, markedArc), watch(texts, markedText)
	stay := func(what string) {
		t.Helper()
		w.check(t, what)
		arcs.check(t, what)
		list.check(t, what)
	}
	watchedMap := graph(g.Places, arcs.list...)
	first, firstLists := answersOf(w.c, node, watchedMap, list.list)
	second, secondLists := answersOf(w.c, node, watchedMap, list.list)
	stay("asked")
	kept, keptLists := slices.Clone(second), slices.Clone(secondLists)
	for i := range kept {
		kept[i], keptLists[i] = cloneService(kept[i]), slices.Clone(keptLists[i])
	}
	for i := range first {
		overwriteService(first[i])
		overwrite(firstLists[i], "overwritten")
		stay("an answer written into")
	}
	third, thirdLists := answersOf(w.c, node, watchedMap, list.list)
	if !sameAnswers(second, secondLists, kept, keptLists) || !sameAnswers(third, thirdLists, kept, keptLists) {
		t.Fatalf("writing into one answer changed another: %+v %q, were %+v %q", second, secondLists, kept, keptLists)
	}
	w.overwrite()
	overwrite(arcs.whole, arc(-4, -5, -6))
	overwrite(list.whole, "overwritten")
	if !sameAnswers(second, secondLists, kept, keptLists) {
		t.Fatalf("an answer shares memory with an argument: %+v %q, were %+v %q", second, secondLists, kept, keptLists)
	}
}

func TestAgreeArgumentsStayAndAnswersAreNew(t *testing.T) {
	r := numbersFrom(158)
	log := textLog([]int64{1, 1, 1, 2}, "none", "weigh 0 1 6", "ask 0 1", "weigh 1 0 6")
	all := []impl.Cluster{withLogs([]int64{4, 2, 0}, log, log, log), withLogs([]int64{3, 3}, log, log), withLogs([]int64{1, 4}, log, append(slices.Clone(log), log[3]))}
	for _, c := range wrongClusters() {
		all = append(all, c)
	}
	for round := range int64(60) {
		_, c := lifeOf(t, &r, 1+round%impl.MaxPeers, 150)
		all = append(all, c, someCluster(&r, 5))
	}
	maps := []impl.Graph{ring(4, 7), graph(1), graph(2, arc(0, 1, 4)), fullGraph(11, impl.MaxArcs), {}, graph(2, arc(0, 1, 0)), graph(3, arc(0, 2, 5), arc(0, 1, 5))}
	for i, c := range all {
		g := maps[i%len(maps)]
		texts := []string{"ask 0 2", "none", "weigh 0 1 5", "weigh 1 0 5 0 1 6", "ask 0 1", "ask 9 9"}[:r.below(7)]
		if i%9 == 0 {
			texts = append(slices.Clone(texts), "wrong")
		}
		for _, node := range []int64{-1, 0, 1, int64(len(c.Nodes)) - 1, int64(len(c.Nodes))} {
			checkNewAnswers(t, c, node, g, texts)
		}
	}
}

// TestServesOfOneMapAreApart: what one of them weighs is not seen by another, nor by the map.
func TestServesOfOneMapAreApart(t *testing.T) {
	g := ring(4, 7)
	plain := checkServe(t, "plain", g, []string{"ask 0 2"})
	weighed := checkServe(t, "weighed", g, []string{"weigh 0 1 1", "ask 0 2"})
	impl.True(g, []string{"weigh 0 1 3", "weigh 1 2 3"})
	if !sameGraph(g, ring(4, 7)) || !sameGraph(plain.Graph, g) || weighed.Graph.Arcs[0].Weight != 1 {
		t.Fatalf("%v %v %v", g, plain.Graph, weighed.Graph)
	}
	overwriteService(weighed)
	if again := checkServe(t, "again", g, []string{"ask 0 2"}); !sameService(again, plain) {
		t.Fatalf("%+v, was %+v", again, plain)
	}
}
