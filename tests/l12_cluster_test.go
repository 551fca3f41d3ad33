package tests

import (
	"math"
	"slices"
	"strconv"
	"testing"

	"loop.example/g00161/impl"
)

func opTime(node int64) impl.Op     { return impl.Op{Kind: impl.OpTime, Node: node} }
func opBeat(node int64) impl.Op     { return impl.Op{Kind: impl.OpBeat, Node: node} }
func opDeliver(index int64) impl.Op { return impl.Op{Kind: impl.OpDeliver, Index: index} }
func opLose(index int64) impl.Op    { return impl.Op{Kind: impl.OpLose, Index: index} }
func opTwice(index int64) impl.Op   { return impl.Op{Kind: impl.OpTwice, Index: index} }
func opStop(node int64) impl.Op     { return impl.Op{Kind: impl.OpStop, Node: node} }

func opTell(node int64, text string) impl.Op {
	return impl.Op{Kind: impl.OpTell, Node: node, Text: text}
}

func sameCluster(a, b impl.Cluster) bool {
	return slices.EqualFunc(a.Nodes, b.Nodes, sameNode) && sameMessages(a.Net, b.Net)
}

func isZeroCluster(c impl.Cluster) bool {
	return sameCluster(c, impl.Cluster{})
}

func cloneCluster(c impl.Cluster) impl.Cluster {
	c.Nodes, c.Net = slices.Clone(c.Nodes), cloneMessages(c.Net)
	for i, n := range c.Nodes {
		c.Nodes[i] = cloneNode(n)
	}
	return c
}

func newCluster(peers int64) impl.Cluster {
	c, _ := impl.NewCluster(peers)
	return c
}

// withNet is the servers of a cluster with these messages under way.
func withNet(c impl.Cluster, net ...impl.Message) impl.Cluster {
	c.Net = net
	return c
}

// withNode is the cluster with that server in the place of the one that has its number.
func withNode(c impl.Cluster, n impl.Node) impl.Cluster {
	c.Nodes = slices.Clone(c.Nodes)
	c.Nodes[n.Id] = n
	return c
}

// manyMessages are to no server, each unlike the others.
func manyMessages(count int) []impl.Message {
	list := make([]impl.Message, count)
	for i := range list {
		list[i] = impl.Message{To: -1, Index: int64(i), Entries: logOf(int64(i)%impl.MaxPlaces, 1)}
	}
	return list
}

func clusterRightByWords(c impl.Cluster) bool {
	if !slices.Contains([]int{1, 2, 3, 4, 5}, len(c.Nodes)) || len(c.Net) > 200 {
		return false
	}
	for i, n := range c.Nodes {
		if !rightByWords(n) || n.Id != int64(i) || n.Peers != int64(len(c.Nodes)) {
			return false
		}
	}
	return true
}

func sentByWords(net []impl.Message, sent ...impl.Message) []impl.Message {
	for _, m := range sent {
		if len(net) < 200 {
			net = append(net, m)
		}
	}
	return net
}

func isNumber(number int64, count int) bool {
	return slices.Contains(upTo(int64(count)), number)
}

func refusedByWords(c impl.Cluster, op impl.Op) bool {
	switch op.Kind {
	case 1, 2, 3, 7:
		return !isNumber(op.Node, len(c.Nodes))
	case 4, 5, 6:
		return !isNumber(op.Index, len(c.Net))
	}
	return true
}

// doneByWords is Do by the words of the chapter, of a cluster that is right.
func doneByWords(c impl.Cluster, op impl.Op) (impl.Cluster, int64) {
	if refusedByWords(c, op) {
		return c, -1
	}
	c = cloneCluster(c)
	var sent []impl.Message
	told := int64(0)
	switch op.Kind {
	case 1:
		c.Nodes[op.Node], sent = timeoutByWords(c.Nodes[op.Node])
	case 2:
		sent = beatsByWords(c.Nodes[op.Node])
	case 3:
		c.Nodes[op.Node], told = proposedByWords(c.Nodes[op.Node], op.Text)
	case 6:
		sent = cloneMessages(c.Net[op.Index : op.Index+1])
	case 7:
		c.Nodes[op.Node] = restartedByWords(c.Nodes[op.Node])
	default:
		m := c.Net[op.Index]
		c.Net = append(slices.Clone(c.Net[:op.Index]), c.Net[op.Index+1:]...)
		if op.Kind == 4 && isNumber(m.To, len(c.Nodes)) {
			c.Nodes[m.To], sent = receivedByWords(c.Nodes[m.To], m)
		}
	}
	c.Net = sentByWords(c.Net, sent...)
	return c, told
}

func emptiedByWords(c impl.Cluster) impl.Cluster {
	for times := 0; len(c.Net) > 0 && times < 400; times++ {
		c, _ = doneByWords(c, opDeliver(0))
	}
	return c
}

func calmByWords(c impl.Cluster, leader int64) impl.Cluster {
	if !clusterRightByWords(c) || !isNumber(leader, len(c.Nodes)) {
		return impl.Cluster{}
	}
	c = emptiedByWords(c)
	for range 3 {
		if c.Nodes[leader].Role == 3 {
			c, _ = doneByWords(c, opBeat(leader))
			c = emptiedByWords(c)
		}
	}
	return c
}

// checkDo holds Do against the words, and against promise 12: what is right stays right, and what is refused changes nothing.
func checkDo(t *testing.T, c impl.Cluster, op impl.Op) (impl.Cluster, int64) {
	t.Helper()
	got, told := impl.Do(c, op)
	want, should := doneByWords(c, op)
	if told != should || !sameCluster(got, want) {
		t.Fatalf("%+v of %+v: %d and %+v, not %d and %+v", op, c, told, got, should, want)
	}
	if !impl.ClusterOk(c) || !impl.ClusterOk(got) || told == -1 && !sameCluster(got, c) {
		t.Fatalf("%+v of %+v: %d and %+v", op, c, told, got)
	}
	return got, told
}

// takeDo asks for just this cluster and just this code.
func takeDo(t *testing.T, c impl.Cluster, op impl.Op, want impl.Cluster, should int64) {
	t.Helper()
	if got, told := checkDo(t, c, op); told != should || !sameCluster(got, want) {
		t.Fatalf("%+v of %+v: %d and %+v, not %d and %+v", op, c, told, got, should, want)
	}
}

func refuseDo(t *testing.T, c impl.Cluster, list ...impl.Op) {
	t.Helper()
	for _, op := range list {
		takeDo(t, c, op, c, -1)
	}
}

// checkPlay holds Play against its ops by Do, one by one.
func checkPlay(t *testing.T, c impl.Cluster, list []impl.Op) (impl.Cluster, []int64) {
	t.Helper()
	got, told := impl.Play(c, list)
	want := c
	var should []int64
	for _, op := range list {
		var code int64
		want, code = impl.Do(want, op)
		should = append(should, code)
		if !impl.ClusterOk(want) {
			t.Fatalf("%+v made %+v of a right one", op, want)
		}
	}
	if !sameCluster(got, want) || !slices.Equal(told, should) {
		t.Fatalf("%+v: %v and %+v, not %v and %+v", list, told, got, should, want)
	}
	return got, told
}

func checkCalm(t *testing.T, c impl.Cluster, leader int64) impl.Cluster {
	t.Helper()
	got := impl.Calm(c, leader)
	if want := calmByWords(c, leader); !sameCluster(got, want) {
		t.Fatalf("%d of %+v: %+v, not %+v", leader, c, got, want)
	}
	if impl.ClusterOk(c) && isNumber(leader, len(c.Nodes)) && !impl.ClusterOk(got) {
		t.Fatalf("%d of %+v: %+v", leader, c, got)
	}
	return got
}

// calmCluster is one in which, by a script, the server leads, and all have its entry of Term 1.
func calmCluster(t *testing.T, peers, leader int64) impl.Cluster {
	t.Helper()
	c, told := impl.Do(newCluster(peers), opTime(leader))
	c = impl.Calm(c, leader)
	if told != 0 || c.Nodes[leader].Role != impl.RlLead || len(c.Net) != 0 {
		t.Fatalf("%+v", c)
	}
	return c
}

func farNumbers(count int64) []int64 {
	return []int64{math.MinInt64, math.MinInt64 + 1, -1 << 32, -2, -1, count, count + 1, 1 << 32, 1<<32 + count - 1, math.MaxInt64}
}

func TestClusterNumbers(t *testing.T) {
	if impl.MaxNet != 200 || impl.MaxOps != 400 || impl.OpTime != 1 || impl.OpBeat != 2 || impl.OpTell != 3 ||
		impl.OpDeliver != 4 || impl.OpLose != 5 || impl.OpTwice != 6 || impl.OpStop != 7 {
		t.Fatal("a number is another one")
	}
}

func checkClusterOk(t *testing.T, what any, c impl.Cluster, right bool) {
	t.Helper()
	if got := impl.ClusterOk(c); got != right || right != clusterRightByWords(c) {
		t.Fatalf("%v: %.600v: %v, not %v", what, c, got, right)
	}
}

func TestClusterOkOfHowManyNodes(t *testing.T) {
	checkClusterOk(t, "zero", impl.Cluster{}, false)
	checkClusterOk(t, "empty", impl.Cluster{Nodes: []impl.Node{}, Net: []impl.Message{}}, false)
	checkClusterOk(t, "a message and no node", impl.Cluster{Net: manyMessages(1)}, false)
	for _, peers := range []int64{1, 2, 3, 4, impl.MaxPeers, impl.MaxPeers + 1, impl.MaxPeers + 2, 300} {
		var c impl.Cluster
		for id := range peers {
			c.Nodes = append(c.Nodes, follower(id, peers, 2, -1, logOf(id%5, 1, 2), 1))
		}
		checkClusterOk(t, peers, c, peers <= impl.MaxPeers)
		checkClusterOk(t, "one is missing", impl.Cluster{Nodes: c.Nodes[1:]}, false)
		checkClusterOk(t, "the last one is missing", impl.Cluster{Nodes: c.Nodes[:peers-1]}, false)
		checkClusterOk(t, "one is there twice", impl.Cluster{Nodes: append(slices.Clone(c.Nodes), c.Nodes[0])}, false)
	}
	// Each has Peers of a right cluster, but there are more of them.
	var c impl.Cluster
	for id := range int64(impl.MaxPeers + 1) {
		c.Nodes = append(c.Nodes, follower(id, impl.MaxPeers, 0, -1, nil, 0))
	}
	checkClusterOk(t, "one too many", c, false)
}

func TestClusterOkOfIdsAndPeers(t *testing.T) {
	for peers := int64(1); peers <= impl.MaxPeers; peers++ {
		c := newCluster(peers)
		for at := range peers {
			for _, id := range append(farNumbers(peers), upTo(peers)...) {
				other := cloneCluster(c)
				other.Nodes[at].Id = id
				checkClusterOk(t, id, other, id == at)
			}
			for _, count := range append(farNumbers(peers), upTo(8)...) {
				other := cloneCluster(c)
				other.Nodes[at].Peers = count
				checkClusterOk(t, count, other, count == peers)
			}
			if at > 0 {
				other := cloneCluster(c)
				other.Nodes[0], other.Nodes[at] = other.Nodes[at], other.Nodes[0]
				checkClusterOk(t, "in another order", other, false)
			}
		}
		for count := range int64(8) {
			other := cloneCluster(c)
			for at := range peers {
				other.Nodes[at].Peers = count
			}
			checkClusterOk(t, "Peers of all", other, count == peers)
		}
	}
}

func TestClusterOkOfEachNode(t *testing.T) {
	c := newCluster(3)
	for _, n := range eachRole() {
		checkClusterOk(t, "Role", withNode(c, n), true)
	}
	for name, n := range wrongNodes() {
		other := cloneCluster(c)
		other.Nodes[1] = n
		checkClusterOk(t, name, other, false)
	}
	for peers := int64(1); peers <= impl.MaxPeers; peers++ {
		for id := range peers {
			n := follower(id, peers, impl.MaxTerm, -1, nil, 0)
			checkClusterOk(t, "MaxTerm", withNode(newCluster(peers), n), true)
			n.Term++
			checkClusterOk(t, "MaxTerm and 1", withNode(newCluster(peers), n), false)
			n = follower(id, peers, 1, id, logOf(0, 1), 2)
			checkClusterOk(t, "Commit", withNode(newCluster(peers), n), false)
		}
	}
	for name, log := range wrongLogs() {
		for at := range int64(3) {
			checkClusterOk(t, name, withNode(c, follower(at, 3, impl.MaxTerm, -1, log, 0)), false)
		}
	}
}

// TestClusterOkOfNets: what the messages are is not asked for, only how many.
func TestClusterOkOfNets(t *testing.T) {
	strange := []impl.Message{
		{}, {Kind: -1}, {Kind: 9, To: 9, From: -9}, vote(1, 0, 3, 0, 0), vote(-1, 0, math.MinInt64, 0, 0), voted(impl.MaxTerm+1, 5, math.MaxInt64, true),
		appends(1, 2, -1, -1, -1, -1, logOf(0, 3, 2, 1)...), appended(0, 0, 0, math.MaxInt64, true), {Entries: logOf(0, alike(impl.MaxLog+1, 1)...)},
	}
	for peers := int64(1); peers <= impl.MaxPeers; peers++ {
		c := newCluster(peers)
		checkClusterOk(t, "strange ones", withNet(c, strange...), true)
		for _, count := range []int{0, 1, 2, impl.MaxNet - 1, impl.MaxNet, impl.MaxNet + 1, impl.MaxNet + 2, 2 * impl.MaxNet} {
			checkClusterOk(t, count, withNet(c, manyMessages(count)...), count <= impl.MaxNet)
			checkClusterOk(t, count, withNet(c, make([]impl.Message, count)...), count <= impl.MaxNet)
		}
	}
}

func TestNewCluster(t *testing.T) {
	for _, peers := range []int64{math.MinInt64, math.MinInt64 + 1, -1 << 32, -5, -2, -1, 0, 1, 2, 3, 4, impl.MaxPeers, impl.MaxPeers + 1, impl.MaxPeers + 2, 255, 256 + 3, 1 << 32, 1<<32 + 3, math.MaxInt64 - 1, math.MaxInt64} {
		got, is := impl.NewCluster(peers)
		if peers < 1 || peers > impl.MaxPeers {
			if is || !isZeroCluster(got) {
				t.Fatalf("%d: %+v %v", peers, got, is)
			}
			continue
		}
		var want impl.Cluster
		for id := range peers {
			want.Nodes = append(want.Nodes, impl.Node{Id: id, Peers: peers, Vote: -1, Role: impl.RlFollow})
		}
		if !is || !sameCluster(got, want) || !impl.ClusterOk(got) {
			t.Fatalf("%d: %+v %v", peers, got, is)
		}
	}
}

func TestTimeAndStopToTheLetter(t *testing.T) {
	c := newCluster(3)
	first := impl.Cluster{Nodes: []impl.Node{c.Nodes[0], standing(1, 3, 1, nil, 1), c.Nodes[2]}, Net: []impl.Message{vote(1, 1, 0, 0, 0), vote(1, 1, 2, 0, 0)}}
	takeDo(t, c, opTime(1), first, 0)
	second := withNode(first, standing(1, 3, 2, nil, 1))
	second.Net = append(slices.Clone(first.Net), vote(2, 1, 0, 0, 0), vote(2, 1, 2, 0, 0))
	takeDo(t, first, opTime(1), second, 0)
	takeDo(t, second, opStop(1), withNode(second, follower(1, 3, 2, 1, nil, 0)), 0)
	takeDo(t, second, opStop(0), second, 0)

	alone := impl.Cluster{Nodes: []impl.Node{withCommit(leader(0, 1, 1, []impl.Entry{entry(1, "none")}, []int64{1}, []int64{1}), 1)}}
	takeDo(t, newCluster(1), opTime(0), alone, 0)
	takeDo(t, alone, opTime(0), alone, 0)
	takeDo(t, alone, opStop(0), impl.Cluster{Nodes: []impl.Node{follower(0, 1, 1, 0, []impl.Entry{entry(1, "none")}, 0)}}, 0)

	for _, n := range []impl.Node{eachRole()[2], follower(1, 3, impl.MaxTerm, 2, logOf(0, 1), 1), standing(1, 3, impl.MaxTerm, nil, 1)} {
		as := withNet(withNode(c, n), manyMessages(3)...)
		takeDo(t, as, opTime(1), as, 0)
		takeDo(t, as, opStop(1), withNode(as, follower(1, 3, n.Term, n.Vote, n.Log, 0)), 0)
	}
}

func TestBeatAndTellToTheLetter(t *testing.T) {
	log := logOf(0, 1, 2, 4)
	leads := withCommit(leader(1, 3, 4, log, []int64{2, 4, 4}, []int64{1, 3, 0}), 1)
	c := withNet(withNode(newCluster(3), leads), manyMessages(2)...)
	beaten := withNet(c, append(slices.Clone(c.Net), appends(4, 1, 0, 1, 1, 1, log[1:]...), appends(4, 1, 2, 3, 4, 1))...)
	takeDo(t, c, opBeat(1), beaten, 0)
	for _, follows := range []int64{0, 2} {
		takeDo(t, c, opBeat(follows), c, 0)
		refuseDo(t, c, opTell(follows, "none"), opTell(follows, ""), opTell(follows, "ask 0 1"))
	}
	for _, text := range commandTexts() {
		more := leads
		more.Log, more.Match = append(slices.Clone(log), entry(4, text)), []int64{1, 4, 0}
		takeDo(t, c, opTell(1, text), withNode(c, more), 4)
	}
	for _, text := range otherTexts() {
		refuseDo(t, c, opTell(1, text))
	}
	stands := withNode(c, eachRole()[1])
	takeDo(t, stands, opBeat(1), stands, 0)
	refuseDo(t, stands, opTell(1, "none"))
}

// TestTellUpToMaxLog: a log that is full takes no more, and the number told is the entry's.
func TestTellUpToMaxLog(t *testing.T) {
	c, _ := impl.Do(newCluster(1), opTime(0))
	for number := int64(2); number <= impl.MaxLog; number++ {
		got, told := impl.Do(c, opTell(0, "ask 0 1"))
		if told != number || got.Nodes[0].Commit != number {
			t.Fatalf("%d, not %d", told, number)
		}
		c = got
	}
	refuseDo(t, c, opTell(0, "ask 0 1"), opTell(0, "none"))
	zero := withNode(newCluster(2), leader(0, 2, 0, nil, alike(2, 1), alike(2, 0)))
	refuseDo(t, zero, opTell(0, "none"))
	takeDo(t, zero, opBeat(0), withNet(zero, appends(0, 0, 1, 0, 0, 0)), 0)
}

func TestMessagesToTheLetter(t *testing.T) {
	stands := standing(1, 3, 1, nil, 1)
	asks := []impl.Message{vote(1, 1, 0, 0, 0), {To: 7}, vote(1, 1, 2, 0, 0), {To: -1, Index: 5}}
	c := withNet(withNode(newCluster(3), stands), asks...)
	given := follower(0, 3, 1, 1, nil, 0)
	takeDo(t, c, opDeliver(0), withNet(withNode(c, given), asks[1], asks[2], asks[3], voted(1, 0, 1, true)), 0)
	given.Id = 2
	takeDo(t, c, opDeliver(2), withNet(withNode(c, given), asks[0], asks[1], asks[3], voted(1, 2, 1, true)), 0)
	takeDo(t, c, opDeliver(1), withNet(c, asks[0], asks[2], asks[3]), 0)
	takeDo(t, c, opDeliver(3), withNet(c, asks[0], asks[1], asks[2]), 0)
	for i := range asks {
		takeDo(t, c, opLose(int64(i)), withNet(c, slices.Delete(slices.Clone(asks), i, i+1)...), 0)
		takeDo(t, c, opTwice(int64(i)), withNet(c, append(slices.Clone(asks), asks[i])...), 0)
	}
	refuseDo(t, c, opDeliver(4), opLose(4), opTwice(4), opDeliver(-1), opLose(-1), opTwice(-1))

	// The second vote makes a majority: it leads, and what it sends comes behind what is under way.
	answers := []impl.Message{voted(1, 2, 1, true), {To: 9}, voted(1, 0, 1, true)}
	c = withNet(c, answers...)
	leads := leader(1, 3, 1, []impl.Entry{entry(1, "none")}, alike(3, 1), []int64{0, 1, 0})
	leads.Votes = []int64{0, 1}
	sent := []impl.Message{appends(1, 1, 0, 0, 0, 0, entry(1, "none")), appends(1, 1, 2, 0, 0, 0, entry(1, "none"))}
	takeDo(t, c, opDeliver(2), withNet(withNode(c, leads), answers[0], answers[1], sent[0], sent[1]), 0)
}

// TestDeliverToNoServer: the message is gone, and nobody changes.
func TestDeliverToNoServer(t *testing.T) {
	for peers := int64(1); peers <= impl.MaxPeers; peers++ {
		for _, to := range farNumbers(peers) {
			for _, m := range []impl.Message{{To: to}, vote(9, 0, to, 0, 0), appends(9, 0, to, 0, 0, 0, entry(1, "none"))} {
				c := withNet(newCluster(peers), m)
				takeDo(t, c, opDeliver(0), newCluster(peers), 0)
				c.Net = append(manyMessages(impl.MaxNet-1), m)
				takeDo(t, c, opDeliver(impl.MaxNet-1), withNet(c, c.Net[:impl.MaxNet-1]...), 0)
			}
		}
	}
}

// TestDeliverOfWhatIsPassedOver: it goes to its server, which leaves it at that.
func TestDeliverOfWhatIsPassedOver(t *testing.T) {
	c := newCluster(3)
	for _, m := range []impl.Message{{}, {Kind: 5, Term: 1, From: 1}, vote(0, 1, 0, 0, 0), vote(impl.MaxTerm+1, 1, 0, 0, 0), vote(1, 0, 0, 0, 0), vote(1, 3, 0, 0, 0), appends(1, 1, 0, 0, 0, 0, entry(2, "none")), appends(1, 1, 0, 0, 0, 0, entry(1, ""))} {
		takeDo(t, withNet(c, m), opDeliver(0), c, 0)
	}
}

func TestKindsThatAreNone(t *testing.T) {
	c := withNet(calmCluster(t, 3, 1), manyMessages(2)...)
	for _, kind := range []int64{math.MinInt64, -8, -7, -4, -2, -1, 0, 8, 9, 100, 1 << 32, 1<<32 + 1, 1<<32 + 4, math.MaxInt64} {
		for _, node := range []int64{-1, 0, 1, 2, 3} {
			for _, index := range []int64{-1, 0, 1, 2} {
				refuseDo(t, c, impl.Op{Kind: kind, Node: node, Index: index, Text: "none"})
			}
		}
	}
}

// TestNodesAndIndexesThatAreNone: of each Kind, what it asks for must be there, and what it does not ask for may be anything.
func TestNodesAndIndexesThatAreNone(t *testing.T) {
	for peers := int64(1); peers <= impl.MaxPeers; peers++ {
		for _, count := range []int{0, 1, 3, impl.MaxNet} {
			c := withNet(calmCluster(t, peers, peers-1), manyMessages(count)...)
			for kind := int64(impl.OpTime); kind <= impl.OpStop; kind++ {
				byIndex := kind == impl.OpDeliver || kind == impl.OpLose || kind == impl.OpTwice
				there := peers
				if byIndex {
					there = int64(count)
				}
				for _, number := range append(farNumbers(there), upTo(min(there, 4))...) {
					checkNumber(t, c, impl.Op{Kind: kind, Text: "none"}, byIndex, number, number >= 0 && number < there)
				}
				if there > 0 {
					checkNumber(t, c, impl.Op{Kind: kind, Text: "none"}, byIndex, there-1, true)
				}
			}
		}
	}
}

// checkNumber does the op at a number, whatever the other number is, and asks that this makes no difference.
func checkNumber(t *testing.T, c impl.Cluster, op impl.Op, byIndex bool, number int64, is bool) {
	t.Helper()
	op.Node = number
	if byIndex {
		op.Node, op.Index = 0, number
	}
	want, should := checkDo(t, c, op)
	if !is && should != -1 || is && should == -1 && op.Kind != impl.OpTell {
		t.Fatalf("%+v: %d", op, should)
	}
	for _, other := range []int64{math.MinInt64, -1, 1, 250, math.MaxInt64} {
		if byIndex {
			op.Node = other
		} else {
			op.Index = other
		}
		if got, told := impl.Do(c, op); told != should || !sameCluster(got, want) {
			t.Fatalf("%+v: %d, not %d", op, told, should)
		}
	}
}

// TestTextsThatAreNotAskedFor: only OpTell reads it.
func TestTextsThatAreNotAskedFor(t *testing.T) {
	c := withNet(calmCluster(t, 3, 1), vote(5, 0, 2, 4, 4), appended(1, 0, 1, 1, true))
	for _, op := range []impl.Op{opTime(0), opBeat(1), opDeliver(0), opDeliver(1), opLose(1), opTwice(0), opStop(1)} {
		want, should := checkDo(t, c, op)
		for _, op.Text = range append(otherTexts(), commandTexts()...) {
			takeDo(t, c, op, want, should)
		}
	}
}

// TestRoomInTheNetwork: what is sent comes in order, as far as there is room, and the rest is lost.
func TestRoomInTheNetwork(t *testing.T) {
	leads := calmCluster(t, 5, 2)
	beats := impl.Beat(leads.Nodes[2])
	_, asks := impl.Timeout(leads.Nodes[0])
	for room := range 6 {
		net := manyMessages(impl.MaxNet - room)
		c := withNet(leads, net...)
		got, told := checkDo(t, c, opBeat(2))
		if told != 0 || !sameMessages(got.Net, append(slices.Clone(net), beats[:min(room, 4)]...)) {
			t.Fatalf("room for %d: %d %+v", room, told, got.Net)
		}
		got, told = checkDo(t, c, opTime(0))
		if told != 0 || got.Nodes[0].Role != impl.RlStand || !sameMessages(got.Net, append(slices.Clone(net), asks[:min(room, 4)]...)) {
			t.Fatalf("room for %d: %d %+v", room, told, got.Net)
		}
		want := net
		if room > 0 {
			want = append(slices.Clone(net), net[3])
		}
		takeDo(t, c, opTwice(3), withNet(c, want...), 0)
	}
}

// TestRoomOfADelivery: the message that is delivered makes room for one, whatever comes of it.
func TestRoomOfADelivery(t *testing.T) {
	stands := withNode(newCluster(5), standing(2, 5, 1, nil, 0, 2))
	last := voted(1, 4, 2, true)
	leads, beats := impl.Receive(stands.Nodes[2], last)
	for room := range 5 {
		others := manyMessages(impl.MaxNet - room - 1)
		for _, index := range []int{0, 1, 77, len(others)} {
			c := withNet(stands, slices.Insert(slices.Clone(others), index, last)...)
			takeDo(t, c, opDeliver(int64(index)), withNet(withNode(c, leads), append(slices.Clone(others), beats[:min(room+1, 4)]...)...), 0)
		}
	}
	asked := withNet(newCluster(2), append(manyMessages(impl.MaxNet-1), vote(1, 0, 1, 0, 0))...)
	got, _ := checkDo(t, asked, opDeliver(impl.MaxNet-1))
	if len(got.Net) != impl.MaxNet || !sameMessage(got.Net[impl.MaxNet-1], voted(1, 1, 0, true)) {
		t.Fatalf("%+v", got.Net)
	}
}

func TestOrderOfManyMessages(t *testing.T) {
	net := manyMessages(impl.MaxNet)
	c := withNet(newCluster(2), net...)
	for i := range impl.MaxNet {
		want := withNet(c, slices.Delete(slices.Clone(net), i, i+1)...)
		takeDo(t, c, opLose(int64(i)), want, 0)
		takeDo(t, c, opDeliver(int64(i)), want, 0)
		takeDo(t, c, opTwice(int64(i)), c, 0)
		takeDo(t, want, opTwice(int64(i)/2), withNet(want, append(slices.Clone(want.Net), want.Net[i/2])...), 0)
	}
}

// wrongClusters are not ClusterOk, for one fault each.
func wrongClusters() map[string]impl.Cluster {
	right := withNet(withNode(newCluster(3), eachRole()[2]), vote(1, 1, 0, 0, 0), vote(1, 1, 2, 0, 0))
	all := map[string]impl.Cluster{
		"zero":               {},
		"no node":            {Net: right.Net},
		"too many nodes":     {Nodes: append(slices.Clone(newCluster(5).Nodes), follower(5, 5, 0, -1, nil, 0))},
		"one too few":        {Nodes: right.Nodes[:2], Net: right.Net},
		"not from 0 on":      {Nodes: right.Nodes[1:], Net: right.Net},
		"one is another":     {Nodes: []impl.Node{right.Nodes[0], right.Nodes[0], right.Nodes[2]}},
		"too many under way": withNet(right, manyMessages(impl.MaxNet+1)...),
	}
	for name, n := range wrongNodes() {
		c := cloneCluster(right)
		c.Nodes[1] = n
		all[name] = c
	}
	return all
}

// opsOfAllKinds are of each Kind and some that are none, at numbers that are there and at such that are not.
func opsOfAllKinds() []impl.Op {
	var list []impl.Op
	for kind := int64(-1); kind <= 8; kind++ {
		for _, node := range []int64{math.MinInt64, -1, 0, 1, 2, 3, math.MaxInt64} {
			for _, index := range []int64{math.MinInt64, -1, 0, 1, 2, impl.MaxNet, math.MaxInt64} {
				list = append(list, impl.Op{Kind: kind, Node: node, Index: index, Text: "none"}, impl.Op{Kind: kind, Node: node, Index: index})
			}
		}
	}
	return list
}

func TestWrongClustersGiveNothing(t *testing.T) {
	for name, c := range wrongClusters() {
		checkClusterOk(t, name, c, false)
		for _, op := range opsOfAllKinds() {
			if got, told := impl.Do(c, op); told != -2 || !isZeroCluster(got) {
				t.Fatalf("%s: %+v: %d %+v", name, op, told, got)
			}
		}
		for _, list := range [][]impl.Op{nil, {}, {opTime(0)}, {opTime(0), {}, opDeliver(0)}, {{}}, make([]impl.Op, impl.MaxOps), make([]impl.Op, impl.MaxOps+1)} {
			if got, told := impl.Play(c, list); len(told) != 0 || !isZeroCluster(got) {
				t.Fatalf("%s: %d ops: %v %+v", name, len(list), told, got)
			}
		}
		for _, leader := range append(farNumbers(3), 0, 1, 2) {
			if got := impl.Calm(c, leader); !isZeroCluster(got) {
				t.Fatalf("%s: %d: %+v", name, leader, got)
			}
		}
	}
}

func TestPlayToTheLetter(t *testing.T) {
	c := newCluster(3)
	for _, list := range [][]impl.Op{nil, {}} {
		if got, told := checkPlay(t, c, list); len(told) != 0 || !sameCluster(got, c) {
			t.Fatal(got, told)
		}
	}
	if got, told := checkPlay(t, c, []impl.Op{opTime(2)}); !slices.Equal(told, []int64{0}) || len(got.Net) != 2 || got.Nodes[2].Role != impl.RlStand {
		t.Fatal(got, told)
	}
	if got, told := checkPlay(t, c, []impl.Op{{}}); !slices.Equal(told, []int64{-1}) || !sameCluster(got, c) {
		t.Fatal(got, told)
	}
	list := []impl.Op{
		opTime(3), opTime(0), opDeliver(2), opDeliver(0), opLose(0), {Kind: 8}, opDeliver(0), opTell(1, "none"), opTell(0, "ask 1 2"), opTell(0, "ask 1"),
		opTwice(0), opDeliver(1), opLose(9), opBeat(0), opBeat(-1), opStop(2), opStop(3), opTell(0, "none"), opTwice(-1), {},
	}
	got, told := checkPlay(t, c, list)
	if want := []int64{-1, 0, -1, 0, 0, -1, 0, -1, 2, -1, 0, 0, -1, 0, -1, 0, -1, 3, -1, -1}; !slices.Equal(told, want) {
		t.Fatalf("%v, not %v", told, want)
	}
	if n := got.Nodes[0]; n.Role != impl.RlLead || len(n.Log) != 3 || n.Log[1] != entry(1, "ask 1 2") || len(got.Net) != 5 {
		t.Fatalf("%+v", got)
	}
}

func TestPlayUpToMaxOps(t *testing.T) {
	c := newCluster(3)
	for _, count := range []int{1, 2, impl.MaxOps - 1, impl.MaxOps, impl.MaxOps + 1, impl.MaxOps + 2, 3 * impl.MaxOps} {
		for _, op := range []impl.Op{opTime(1), {}, opStop(2), opTime(-1)} {
			list := slices.Repeat([]impl.Op{op}, count)
			if count > impl.MaxOps {
				if got, told := impl.Play(c, list); len(told) != 0 || !isZeroCluster(got) {
					t.Fatalf("%d ops: %v %+v", count, told, got)
				}
				continue
			}
			got, told := checkPlay(t, c, list)
			if len(told) != count || op.Kind == impl.OpTime && op.Node == 1 && got.Nodes[1].Term != int64(count) {
				t.Fatalf("%d ops: %v %+v", count, told, got)
			}
		}
	}
}

func TestCalmToTheLetter(t *testing.T) {
	c := newCluster(3)
	for leader := range int64(3) {
		if got := checkCalm(t, c, leader); !sameCluster(got, c) {
			t.Fatalf("%d: %+v", leader, got)
		}
	}
	for _, leader := range farNumbers(3) {
		if got := checkCalm(t, c, leader); !isZeroCluster(got) {
			t.Fatalf("%d: %+v", leader, got)
		}
	}
	stood, _ := impl.Do(c, opTime(1))
	one := []impl.Entry{entry(1, "none")}
	// All that is under way comes; by then server 1 leads and knows that all have its entry, but the others do not.
	led := leader(1, 3, 1, one, alike(3, 2), alike(3, 1))
	led.Next[1], led.Votes = 1, []int64{0, 1}
	want := impl.Cluster{Nodes: []impl.Node{follower(0, 3, 1, 1, one, 0), withCommit(led, 1), follower(2, 3, 1, 1, one, 0)}}
	for _, other := range []int64{0, 2} {
		if got := checkCalm(t, stood, other); !sameCluster(got, want) {
			t.Fatalf("%+v, not %+v", got, want)
		}
	}
	// Where it is asked for, its Beats tell them.
	want.Nodes[0].Commit, want.Nodes[2].Commit = 1, 1
	if got := checkCalm(t, stood, 1); !sameCluster(got, want) {
		t.Fatalf("%+v, not %+v", got, want)
	}
	if got := checkCalm(t, want, 1); !sameCluster(got, want) {
		t.Fatalf("%+v, not %+v", got, want)
	}
}

// TestCalmBeatsThreeTimes: by each Beat five entries come, and by the one behind it that they are agreed on.
func TestCalmBeatsThreeTimes(t *testing.T) {
	for peers := int64(2); peers <= impl.MaxPeers; peers++ {
		for lead := range peers {
			c := calmCluster(t, peers, lead)
			c, _ = impl.Play(c, slices.Repeat([]impl.Op{opTell(lead, "ask 2 3")}, 40))
			other := (lead + 1) % peers
			for times := 1; times <= 5; times++ {
				c = checkCalm(t, c, lead)
				n := c.Nodes[other]
				if has := min(1+15*times, 41); len(n.Log) != has || c.Nodes[lead].Commit != int64(has) || times < 3 && n.Commit != int64(has-5) {
					t.Fatalf("%d times: %+v", times, c)
				}
			}
			if last := c.Nodes[other]; last.Commit != 41 {
				t.Fatalf("%+v", last)
			}
		}
	}
}

// TestCalmOfOneThatFollows: what is under way is delivered, and nothing is sent anew.
func TestCalmOfOneThatFollows(t *testing.T) {
	c := calmCluster(t, 3, 0)
	c, _ = impl.Play(c, []impl.Op{opTell(0, "ask 0 1"), opBeat(0), opTell(0, "ask 0 2")})
	for _, follows := range []int64{1, 2} {
		got := checkCalm(t, c, follows)
		if len(got.Net) != 0 || len(got.Nodes[1].Log) != 2 || len(got.Nodes[2].Log) != 2 || got.Nodes[0].Commit != 2 || got.Nodes[1].Commit != 1 {
			t.Fatalf("%+v", got)
		}
	}
	// It leads no more as soon as what is under way has come: it does not beat then.
	c.Net = append(c.Net, vote(2, 2, 0, 9, 9))
	if got := checkCalm(t, c, 0); got.Nodes[0].Role != impl.RlFollow || got.Nodes[0].Vote != 2 || len(got.Nodes[1].Log) != 2 || len(got.Net) != 0 {
		t.Fatalf("%+v", got)
	}
	// It leads only as soon as what is under way has come: it beats then.
	stands, _ := impl.Do(newCluster(5), opTime(3))
	if got := checkCalm(t, stands, 3); got.Nodes[3].Role != impl.RlLead || got.Nodes[0].Commit != 1 {
		t.Fatalf("%+v", got)
	}
	// A later Term is met by the first Beat: it does not beat once more.
	c = calmCluster(t, 3, 0)
	c, _ = impl.Play(c, []impl.Op{opTime(2), opLose(0), opLose(0), opTell(0, "ask 0 1")})
	if got := checkCalm(t, c, 0); got.Nodes[0].Role != impl.RlFollow || got.Nodes[0].Term != 2 || len(got.Nodes[1].Log) != 2 || got.Nodes[1].Commit != 1 || len(got.Nodes[2].Log) != 1 || got.Nodes[1].Term != 1 {
		t.Fatalf("%+v", got)
	}
}

// TestCalmDeliversFourHundredTimes: 200 that ask and 200 answers are all; what comes of those stays under way, but for one that leads and beats.
func TestCalmDeliversFourHundredTimes(t *testing.T) {
	c, _ := impl.Play(newCluster(3), append([]impl.Op{opTime(0), opLose(1)}, slices.Repeat([]impl.Op{opTwice(0)}, 300)...))
	if len(c.Net) != impl.MaxNet {
		t.Fatalf("%+v", c)
	}
	none := entry(1, "none")
	for _, follows := range []int64{1, 2} {
		got := checkCalm(t, c, follows)
		if !sameMessages(got.Net, []impl.Message{appends(1, 0, 1, 0, 0, 0, none)}) || got.Nodes[0].Role != impl.RlLead || len(got.Nodes[1].Log) != 0 {
			t.Fatalf("%+v", got)
		}
		if again := checkCalm(t, got, follows); len(again.Net) != 0 || len(again.Nodes[1].Log) != 1 || len(again.Nodes[2].Log) != 0 {
			t.Fatalf("%+v", again)
		}
	}
	if got := checkCalm(t, c, 0); len(got.Net) != 0 || got.Nodes[1].Commit != 1 || got.Nodes[2].Commit != 1 || got.Nodes[2].Log[0] != none {
		t.Fatalf("%+v", got)
	}
	// 199 that ask, as many answers, and the two that are sent of them: what those answer stays under way. With one fewer, all have come.
	c.Net = c.Net[1:]
	if got := checkCalm(t, c, 1); !sameMessages(got.Net, []impl.Message{appended(1, 1, 0, 1, true), appended(1, 2, 0, 1, true)}) || got.Nodes[0].Commit != 0 {
		t.Fatalf("%+v", got)
	}
	c.Net = c.Net[1:]
	if got := checkCalm(t, c, 1); len(got.Net) != 0 || got.Nodes[0].Commit != 1 || got.Nodes[1].Commit != 0 {
		t.Fatalf("%+v", got)
	}
}

func TestCalmOfFullNetworks(t *testing.T) {
	for peers := int64(1); peers <= impl.MaxPeers; peers++ {
		c := withNet(calmCluster(t, peers, 0), manyMessages(impl.MaxNet)...)
		c, _ = impl.Do(c, opTell(0, "ask 0 1"))
		for leader := range peers {
			got := checkCalm(t, c, leader)
			if len(got.Net) != 0 || leader == 0 && got.Nodes[peers-1].Commit != 2 || leader != 0 && len(got.Nodes[peers-1].Log) != 1 {
				t.Fatalf("%+v", got)
			}
		}
	}
}

// someCluster is a right one that no script may lead to, with messages of all sorts.
func someCluster(r *numbersFrom, most int64) impl.Cluster {
	var c impl.Cluster
	peers := 1 + r.below(impl.MaxPeers)
	for id := range peers {
		c.Nodes = append(c.Nodes, someNodeOf(r, id, peers))
	}
	for range r.below(most + 1) {
		m := someMessage(r, c.Nodes[r.below(peers)])
		if r.below(20) == 0 {
			m.To = r.below(8) - 1
		}
		c.Net = append(c.Net, m)
	}
	return c
}

// someOp is one that a cluster may do; sometimes it has no such number, or the Kind is none.
func someOp(r *numbersFrom, c impl.Cluster) impl.Op {
	op := impl.Op{Kind: 1 + r.below(7), Node: r.below(int64(len(c.Nodes))), Index: r.below(int64(len(c.Net)) + 1), Text: "ask 0 " + strconv.FormatInt(r.below(25), 10)}
	switch r.below(30) {
	case 0:
		op.Kind = r.below(10) - 1
	case 1:
		op.Node = r.below(9) - 2
	case 2:
		op.Index = r.below(2)*(int64(len(c.Net))+2) - 1
	}
	return op
}

func TestStepsOfSomeClusters(t *testing.T) {
	r := numbersFrom(141)
	for range 1500 {
		c := someCluster(&r, 12)
		for range 8 {
			checkDo(t, c, someOp(&r, c))
		}
	}
	for range 150 {
		c := someCluster(&r, impl.MaxNet)
		for range 3 {
			checkDo(t, c, someOp(&r, c))
		}
	}
}

func TestCalmOfSomeClusters(t *testing.T) {
	r := numbersFrom(142)
	for range 150 {
		c := someCluster(&r, 12)
		checkCalm(t, c, r.below(int64(len(c.Nodes))))
	}
	for range 12 {
		c := someCluster(&r, impl.MaxNet)
		checkCalm(t, c, r.below(int64(len(c.Nodes))))
	}
}

func TestPlayOfSomeClusters(t *testing.T) {
	r := numbersFrom(143)
	for range 300 {
		c := someCluster(&r, 30)
		var list []impl.Op
		for range r.below(40) {
			list = append(list, someOp(&r, c))
		}
		checkPlay(t, c, list)
	}
}

// lifeOp is one of a script by which something comes about: mostly messages come, in any order, and now and then one is lost, comes twice, or a server stops.
func lifeOp(r *numbersFrom, c impl.Cluster, quiet int64) impl.Op {
	node := r.below(int64(len(c.Nodes)))
	index := r.below(int64(len(c.Net)) + 1)
	switch what := r.below(quiet); {
	case what == 0:
		return opTime(node)
	case what == 1:
		return opStop(node)
	case what < 5:
		return opBeat(node)
	case what < 8:
		return opTell(node, []string{"none", "ask 1 2", "ask 2 1", "weigh 0 1 5", "no"}[r.below(5)])
	case what < 10:
		return opLose(index)
	case what < 12:
		return opTwice(index)
	case what == 12:
		return someOp(r, c)
	}
	return opDeliver(index)
}

// lifeOf plays a script from a new cluster on, op by op, and tells the script and what came of it.
func lifeOf(t *testing.T, r *numbersFrom, peers int64, ops int64) ([]impl.Op, impl.Cluster) {
	t.Helper()
	c := newCluster(peers)
	var list []impl.Op
	quiet := 20 + r.below(100)
	for range ops {
		op := lifeOp(r, c, quiet)
		list = append(list, op)
		got, told := impl.Do(c, op)
		if !impl.ClusterOk(got) || told < -1 || told == -1 && !sameCluster(got, c) || told > 0 && op.Kind != impl.OpTell {
			t.Fatalf("%+v: %d: %+v became %+v", op, told, c, got)
		}
		c = got
	}
	return list, c
}

// checkAllHaveIt holds promise 12: calm forty times, those of the leader's Term have its Log and its agreed part; it tells how many others had to.
func checkAllHaveIt(t *testing.T, c impl.Cluster, leader int64) int {
	t.Helper()
	for range 40 {
		c = impl.Calm(c, leader)
		if !impl.ClusterOk(c) {
			t.Fatalf("%+v", c)
		}
	}
	lead, others := c.Nodes[leader], 0
	if lead.Role != impl.RlLead {
		return 0
	}
	for _, n := range c.Nodes {
		if n.Term != lead.Term || n.Id == leader {
			continue
		}
		others++
		if !slices.Equal(n.Log, lead.Log) || n.Commit != lead.Commit {
			t.Fatalf("%+v has not what %+v has", n, lead)
		}
	}
	if lead.Commit != int64(len(lead.Log)) || others != len(c.Nodes)-1 {
		t.Fatalf("%+v does not lead all: %+v", lead, c)
	}
	return others
}

// TestAllHaveWhatTheLeaderHas is promise 12, of scripts by which a log does not become full.
func TestAllHaveWhatTheLeaderHas(t *testing.T) {
	r := numbersFrom(144)
	led, others, entries := 0, 0, 0
	for round := range 1500 {
		list, c := lifeOf(t, &r, int64(1+round%impl.MaxPeers), 1+r.below(impl.MaxOps))
		if got, _ := impl.Play(newCluster(int64(len(c.Nodes))), list); !sameCluster(got, c) {
			t.Fatalf("%+v: %+v, not %+v", list, got, c)
		}
		for _, n := range c.Nodes {
			if n.Role != impl.RlLead {
				continue
			}
			led++
			entries += len(n.Log)
			others += checkAllHaveIt(t, c, n.Id)
		}
	}
	if led < 500 || others < 1000 || entries < 2000 {
		t.Fatalf("too little came about: %d led, with %d entries, and %d others had them", led, entries, others)
	}
}

// TestLongLogsThatDiffer: one that was alone has as many entries of its own as the one that leads, and each of them goes one by one.
func TestLongLogsThatDiffer(t *testing.T) {
	for _, count := range []int{1, 5, 40, 99} {
		list := []impl.Op{opTime(0), opLose(0), opDeliver(0), opDeliver(0), opLose(0), opLose(0)}
		list = append(list, slices.Repeat([]impl.Op{opTell(0, "ask 0 1")}, count)...)
		list = append(list, opTime(1), opLose(0), opLose(0), opTime(1), opLose(0), opDeliver(0), opDeliver(0), opLose(0), opLose(0))
		list = append(list, slices.Repeat([]impl.Op{opTell(1, "ask 1 0")}, count)...)
		list = append(list, opStop(1), opTime(1), opLose(0), opDeliver(0), opDeliver(0))
		c, told := checkPlay(t, newCluster(3), list)
		if slices.Contains(told, -1) || len(c.Nodes[0].Log) != count+1 || len(c.Nodes[1].Log) != count+2 || c.Nodes[0].Term != 1 || c.Nodes[1].Term != 3 {
			t.Fatalf("%v: %+v", told, c)
		}
		if others := checkAllHaveIt(t, c, 1); others != 2 {
			t.Fatal(others)
		}
	}
}

// TestTwoLead: the one of the earlier Term learns of it by its own Beat, and the other brings all to what it has.
func TestTwoLead(t *testing.T) {
	list := []impl.Op{
		opTime(0), opDeliver(0), opDeliver(1), opLose(0), opLose(0), opLose(0), opTell(0, "ask 0 1"), opTell(0, "ask 0 2"),
		opTime(2), opTime(2), opLose(0), opLose(0), opLose(0), opDeliver(0), opDeliver(0), opTell(2, "ask 2 0"),
	}
	c, told := checkPlay(t, newCluster(3), list)
	if c.Nodes[0].Role != impl.RlLead || c.Nodes[2].Role != impl.RlLead || c.Nodes[0].Term != 1 || c.Nodes[2].Term != 2 {
		t.Fatalf("%v: %+v", told, c)
	}
	if others := checkAllHaveIt(t, c, 2); others != 2 {
		t.Fatal(others)
	}
	if got := checkCalm(t, c, 0); got.Nodes[0].Role != impl.RlFollow || got.Nodes[0].Term != 2 {
		t.Fatalf("%+v", got)
	}
}

// watchedCluster is a cluster all of whose lists are watched, those of its servers and messages too.
type watchedCluster struct {
	c      impl.Cluster
	before impl.Cluster
	whole  impl.Cluster
	parts  []watchedNode
	ops    watched[impl.Op]
}

func watchCluster(c impl.Cluster, list []impl.Op) watchedCluster {
	mark, note := impl.Node{Id: markedServer}, impl.Message{Kind: markedServer}
	w := watchedCluster{whole: impl.Cluster{Nodes: []impl.Node{mark, mark}, Net: []impl.Message{note, note}}, ops: watch(list, impl.Op{Kind: markedServer, Text: markedText})}
	for _, n := range c.Nodes {
		part := watchNode(n, impl.Message{})
		w.parts, w.whole.Nodes = append(w.parts, part), append(w.whole.Nodes, part.n)
	}
	for _, m := range c.Net {
		part := watchNode(impl.Node{}, m)
		w.parts, w.whole.Net = append(w.parts, part), append(w.whole.Net, part.m)
	}
	w.whole.Nodes, w.whole.Net = append(w.whole.Nodes, mark, mark, mark, mark, mark, mark), append(w.whole.Net, note, note, note, note, note, note)
	w.before = cloneCluster(w.whole)
	w.c = impl.Cluster{Nodes: w.whole.Nodes[2 : 2+len(c.Nodes)], Net: w.whole.Net[2 : 2+len(c.Net)]}
	return w
}

func (w watchedCluster) check(t *testing.T, name string) {
	t.Helper()
	if !sameCluster(w.whole, w.before) {
		t.Fatalf("%s: an argument was written into: %+v, was %+v", name, w.whole, w.before)
	}
	for _, part := range w.parts {
		part.check(t, name)
	}
	w.ops.check(t, name)
}

func (w watchedCluster) overwrite() {
	for _, part := range w.parts {
		part.overwrite()
	}
	overwrite(w.whole.Nodes, impl.Node{Id: -8})
	overwrite(w.whole.Net, impl.Message{Kind: -8})
	overwrite(w.ops.whole, impl.Op{Kind: -8})
}

// eachListOf is a change to each list of an answer, one at a time: those of each server, then those of each message.
func eachListOf(c impl.Cluster, told []int64) []func() {
	list := []func(){func() { overwrite(told, markedServer) }}
	for _, n := range c.Nodes {
		list = append(list, eachList(n, nil)...)
	}
	return append(list, eachList(impl.Node{}, c.Net)[4:]...)
}

func allListsOf(c impl.Cluster, told []int64) [][]impl.Entry {
	lists := [][]impl.Entry{logOf(0, told...)}
	for _, n := range c.Nodes {
		lists = append(lists, listsOf(n, nil)...)
	}
	return append(lists, listsOf(impl.Node{}, c.Net)[4:]...)
}

type answerOfCluster func(c impl.Cluster, list []impl.Op) (impl.Cluster, []int64)

// checkNewCluster asks that what is answered is new memory each time, each list of it apart from the others.
func checkNewCluster(t *testing.T, name string, w watchedCluster, answer answerOfCluster) {
	t.Helper()
	impl.ClusterOk(w.c)
	first, told := answer(w.c, w.ops.list)
	second, codes := answer(w.c, w.ops.list)
	w.check(t, name)
	kept, keptCodes := cloneCluster(second), slices.Clone(codes)
	for i, change := range eachListOf(first, told) {
		before := allListsOf(first, told)
		change()
		for j, after := range allListsOf(first, told) {
			if j != i && !slices.Equal(after, before[j]) {
				t.Fatalf("%s: list %d of one answer shares memory with list %d", name, i, j)
			}
		}
	}
	overwrite(first.Nodes, impl.Node{Id: -9})
	overwrite(first.Net, impl.Message{Kind: -9})
	w.check(t, name+", an answer written into")
	third, last := answer(w.c, w.ops.list)
	if !sameCluster(third, kept) || !sameCluster(second, kept) || !slices.Equal(last, keptCodes) || !slices.Equal(codes, keptCodes) {
		t.Fatalf("%s: writing into one answer changed another: %+v and %+v", name, second, third)
	}
	w.overwrite()
	if !sameCluster(second, kept) || !slices.Equal(codes, keptCodes) {
		t.Fatalf("%s: an answer shares memory with an argument: %+v, was %+v", name, second, kept)
	}
}

func eachAnswerOfCluster() map[string]answerOfCluster {
	return map[string]answerOfCluster{
		"Do": func(c impl.Cluster, list []impl.Op) (impl.Cluster, []int64) {
			after, told := impl.Do(c, list[0])
			return after, []int64{told}
		},
		"Play": impl.Play,
		"Calm": func(c impl.Cluster, list []impl.Op) (impl.Cluster, []int64) { return impl.Calm(c, list[0].Node), nil },
	}
}

func TestClusterArgumentsStay(t *testing.T) {
	r := numbersFrom(145)
	for name, answer := range eachAnswerOfCluster() {
		for range 400 {
			c := someCluster(&r, 12)
			list := []impl.Op{someOp(&r, c)}
			for range r.below(8) {
				list = append(list, someOp(&r, c))
			}
			checkNewCluster(t, name, watchCluster(c, list), answer)
		}
		for _, c := range wrongClusters() {
			checkNewCluster(t, name, watchCluster(c, []impl.Op{opDeliver(0), opTime(1)}), answer)
		}
	}
}

// TestWhatComesTwiceIsApart: of a message with Entries, the two share none of them, and what is delivered of one is not the other's.
func TestWhatComesTwiceIsApart(t *testing.T) {
	c := calmCluster(t, 3, 0)
	c, _ = impl.Play(c, []impl.Op{opTell(0, "ask 0 1"), opTell(0, "ask 0 2"), opBeat(0)})
	for _, list := range [][]impl.Op{{opTwice(0)}, {opTwice(1)}, {opTwice(0), opTwice(2), opTwice(0)}, {opTwice(0), opDeliver(0)}, {opTwice(0), opDeliver(0), opDeliver(1), opBeat(0)}} {
		checkNewCluster(t, "Play", watchCluster(c, list), impl.Play)
		checkNewCluster(t, "Do", watchCluster(c, list), eachAnswerOfCluster()["Do"])
		got, _ := checkPlay(t, c, list)
		checkNewCluster(t, "Calm", watchCluster(got, list), eachAnswerOfCluster()["Calm"])
	}
}

// TestNewClustersAreApart: two of them share no memory.
func TestNewClustersAreApart(t *testing.T) {
	for peers := int64(0); peers <= impl.MaxPeers+1; peers++ {
		one, other := newCluster(peers), newCluster(peers)
		kept := cloneCluster(other)
		for _, change := range eachListOf(one, nil) {
			change()
		}
		overwrite(one.Nodes, impl.Node{Id: -9})
		overwrite(one.Net, impl.Message{Kind: -9})
		if !sameCluster(other, kept) || !sameCluster(newCluster(peers), kept) {
			t.Fatalf("%d: %+v", peers, other)
		}
	}
}
