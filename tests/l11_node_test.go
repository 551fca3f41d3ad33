package tests

import (
	"math"
	"slices"
	"strconv"
	"testing"

	"loop.example/g00161/impl"
)

const markedServer = int64(-77)

func follower(id, peers, term, vote int64, log []impl.Entry, commit int64) impl.Node {
	return impl.Node{Id: id, Peers: peers, Term: term, Vote: vote, Log: log, Role: impl.RlFollow, Commit: commit}
}

// standing has voted for itself.
func standing(id, peers, term int64, log []impl.Entry, votes ...int64) impl.Node {
	return impl.Node{Id: id, Peers: peers, Term: term, Vote: id, Log: log, Role: impl.RlStand, Votes: votes}
}

// leader has voted for itself, as those from 0 up to the majority have, and knows of itself that it has all of its log.
func leader(id, peers, term int64, log []impl.Entry, next, match []int64) impl.Node {
	return impl.Node{Id: id, Peers: peers, Term: term, Vote: id, Log: log, Role: impl.RlLead, Votes: upTo(peers/2 + 1), Next: next, Match: match}
}

func withCommit(n impl.Node, commit int64) impl.Node {
	n.Commit = commit
	return n
}

func sameNode(a, b impl.Node) bool {
	return a.Id == b.Id && a.Peers == b.Peers && a.Term == b.Term && a.Vote == b.Vote && a.Role == b.Role && a.Commit == b.Commit &&
		slices.Equal(a.Log, b.Log) && slices.Equal(a.Votes, b.Votes) && slices.Equal(a.Next, b.Next) && slices.Equal(a.Match, b.Match)
}

func isZeroNode(n impl.Node) bool {
	return sameNode(n, impl.Node{})
}

func cloneNode(n impl.Node) impl.Node {
	n.Log, n.Votes, n.Next, n.Match = slices.Clone(n.Log), slices.Clone(n.Votes), slices.Clone(n.Next), slices.Clone(n.Match)
	return n
}

func sameMessage(a, b impl.Message) bool {
	return a.Kind == b.Kind && a.Term == b.Term && a.From == b.From && a.To == b.To && a.Index == b.Index && a.LogTerm == b.LogTerm &&
		a.Commit == b.Commit && a.Yes == b.Yes && slices.Equal(a.Entries, b.Entries)
}

func sameMessages(a, b []impl.Message) bool {
	return slices.EqualFunc(a, b, sameMessage)
}

func cloneMessages(list []impl.Message) []impl.Message {
	list = slices.Clone(list)
	for i := range list {
		list[i].Entries = slices.Clone(list[i].Entries)
	}
	return list
}

func vote(term, from, to, index, logTerm int64) impl.Message {
	return impl.Message{Kind: impl.MsVote, Term: term, From: from, To: to, Index: index, LogTerm: logTerm}
}

func voted(term, from, to int64, yes bool) impl.Message {
	return impl.Message{Kind: impl.MsVoted, Term: term, From: from, To: to, Yes: yes}
}

func appends(term, from, to, index, logTerm, commit int64, entries ...impl.Entry) impl.Message {
	return impl.Message{Kind: impl.MsAppend, Term: term, From: from, To: to, Index: index, LogTerm: logTerm, Entries: entries, Commit: commit}
}

func appended(term, from, to, index int64, yes bool) impl.Message {
	return impl.Message{Kind: impl.MsAppended, Term: term, From: from, To: to, Index: index, Yes: yes}
}

// rightByWords is NodeOk by the words of the chapter.
func rightByWords(n impl.Node) bool {
	if n.Peers < 1 || n.Peers > 5 || n.Term < 0 || n.Term > 100000 || !logRightByWords(n.Log) {
		return false
	}
	servers := upTo(n.Peers)
	numbers := upTo(int64(len(n.Log)) + 1)
	isNot := func(list []int64) func(int64) bool {
		return func(one int64) bool { return !slices.Contains(list, one) }
	}
	if isNot(servers)(n.Id) || isNot(append([]int64{-1}, servers...))(n.Vote) || isNot(numbers)(n.Commit) || isNot([]int64{1, 2, 3})(n.Role) {
		return false
	}
	if slices.ContainsFunc(n.Log, func(one impl.Entry) bool { return one.Term > n.Term }) {
		return false
	}
	rising := slices.Compact(slices.Sorted(slices.Values(n.Votes)))
	if !slices.Equal(n.Votes, rising) || slices.ContainsFunc(rising, isNot(servers)) || n.Role == 1 && len(rising) != 0 {
		return false
	}
	if n.Role != 3 {
		return len(n.Next) == 0 && len(n.Match) == 0
	}
	return len(n.Next) == len(servers) && len(n.Match) == len(servers) && !slices.ContainsFunc(n.Match, isNot(numbers)) &&
		!slices.ContainsFunc(n.Next, func(next int64) bool { return isNot(numbers)(next - 1) })
}

// agreedByWords is what Commit is at MsAppended.
func agreedByWords(n impl.Node) int64 {
	for i, one := range n.Log {
		reached := slices.DeleteFunc(slices.Clone(n.Match), func(match int64) bool { return match <= int64(i) })
		if one.Term == n.Term && len(reached) > int(n.Peers/2) {
			n.Commit = max(n.Commit, int64(i)+1)
		}
	}
	return n.Commit
}

func beatsByWords(n impl.Node) []impl.Message {
	if !rightByWords(n) || n.Role != 3 {
		return nil
	}
	var list []impl.Message
	for to, next := range n.Next {
		if int64(to) == n.Id {
			continue
		}
		m := impl.Message{Kind: 3, Term: n.Term, From: n.Id, To: int64(to), Index: next - 1, Commit: n.Commit}
		for i, one := range n.Log {
			number := int64(i) + 1
			if number == m.Index {
				m.LogTerm = one.Term
			}
			if number >= next && number < next+5 {
				m.Entries = append(m.Entries, one)
			}
		}
		list = append(list, m)
	}
	return list
}

func leadsByWords(n impl.Node) (impl.Node, []impl.Message) {
	n.Role, n.Next, n.Match = 3, alike(int(n.Peers), int64(len(n.Log))+1), alike(int(n.Peers), 0)
	if len(n.Log) < 200 {
		n.Log = append(slices.Clone(n.Log), entry(n.Term, "none"))
	}
	n.Match[n.Id] = int64(len(n.Log))
	n.Commit = agreedByWords(n)
	return n, beatsByWords(n)
}

func timeoutByWords(n impl.Node) (impl.Node, []impl.Message) {
	if !rightByWords(n) {
		return impl.Node{}, nil
	}
	if n.Role == 3 || n.Term == 100000 {
		return n, nil
	}
	n = impl.Node{Id: n.Id, Peers: n.Peers, Term: n.Term + 1, Vote: n.Id, Log: n.Log, Role: 2, Commit: n.Commit, Votes: []int64{n.Id}}
	if n.Peers == 1 {
		return leadsByWords(n)
	}
	var list []impl.Message
	for _, to := range upTo(n.Peers) {
		if to != n.Id {
			list = append(list, vote(n.Term, n.Id, to, int64(len(n.Log)), impl.LastTerm(n.Log)))
		}
	}
	return n, list
}

// proposedByWords takes no entry of Term 0, of which there is no log.
func proposedByWords(n impl.Node, text string) (impl.Node, int64) {
	if !rightByWords(n) {
		return impl.Node{}, -1
	}
	if _, is := readCommandByHand(text); !is || n.Role != 3 || len(n.Log) == 200 || n.Term == 0 {
		return n, -1
	}
	n.Log = append(slices.Clone(n.Log), entry(n.Term, text))
	n.Match = slices.Clone(n.Match)
	n.Match[n.Id] = int64(len(n.Log))
	n.Commit = agreedByWords(n)
	return n, n.Match[n.Id]
}

// isNoMessageByWords is what Receive passes over.
func isNoMessageByWords(n impl.Node, m impl.Message) bool {
	return m.To != n.Id || m.From == n.Id || !slices.Contains(upTo(n.Peers), m.From) || !slices.Contains([]int64{1, 2, 3, 4}, m.Kind) ||
		m.Term < 1 || m.Term > 100000 || !logRightByWords(m.Entries) ||
		slices.ContainsFunc(m.Entries, func(one impl.Entry) bool { return one.Term > m.Term })
}

func receivedByWords(n impl.Node, m impl.Message) (impl.Node, []impl.Message) {
	if !rightByWords(n) {
		return impl.Node{}, nil
	}
	if isNoMessageByWords(n, m) {
		return n, nil
	}
	n = cloneNode(n)
	if m.Term > n.Term {
		n = follower(n.Id, n.Peers, m.Term, -1, n.Log, n.Commit)
	}
	switch m.Kind {
	case 1:
		yes := m.Term == n.Term && slices.Contains([]int64{-1, m.From}, n.Vote) && newerByWords(n.Log, m.Index, m.LogTerm)
		if yes {
			n.Vote = m.From
		}
		return n, []impl.Message{voted(n.Term, n.Id, m.From, yes)}
	case 2:
		return votedByWords(n, m)
	case 3:
		return appendByWords(n, m)
	}
	return appendedByWords(n, m), nil
}

func votedByWords(n impl.Node, m impl.Message) (impl.Node, []impl.Message) {
	if n.Role != 2 || n.Term != m.Term || !m.Yes {
		return n, nil
	}
	n.Votes = slices.Compact(slices.Sorted(slices.Values(append(n.Votes, m.From))))
	if 2*len(n.Votes) > int(n.Peers) {
		return leadsByWords(n)
	}
	return n, nil
}

// nearby is a number as it is, or, far from all that a server has, another one that is as far.
func nearby(number int64) int64 {
	return min(max(number, -1000), 1000)
}

func appendByWords(n impl.Node, m impl.Message) (impl.Node, []impl.Message) {
	if m.Term < n.Term {
		return n, []impl.Message{appended(n.Term, n.Id, m.From, 0, false)}
	}
	if n.Role == 3 {
		return n, nil
	}
	n = follower(n.Id, n.Peers, n.Term, n.Vote, n.Log, n.Commit)
	end := int64(len(n.Log))
	merged, is := mergedByWords(n.Log, m.Index, m.Entries)
	if !is || !fitsByWords(n.Log, m.Index, m.LogTerm) || !slices.Equal(merged[:min(n.Commit, int64(len(merged)))], n.Log[:n.Commit]) {
		return n, []impl.Message{appended(n.Term, n.Id, m.From, max(0, min(end, nearby(m.Index)-1)), false)}
	}
	n.Log = merged
	sent := m.Index + int64(len(m.Entries))
	n.Commit = max(n.Commit, min(m.Commit, sent))
	return n, []impl.Message{appended(n.Term, n.Id, m.From, sent, true)}
}

func appendedByWords(n impl.Node, m impl.Message) impl.Node {
	if n.Role != 3 || n.Term != m.Term {
		return n
	}
	index := nearby(m.Index)
	if m.Yes {
		if index > n.Match[m.From] && index <= int64(len(n.Log)) {
			n.Match[m.From] = index
		}
		n.Next[m.From] = n.Match[m.From] + 1
		n.Commit = agreedByWords(n)
		return n
	}
	n.Next[m.From] = max(min(n.Next[m.From]-1, index+1), n.Match[m.From]+1)
	return n
}

func restartedByWords(n impl.Node) impl.Node {
	if !rightByWords(n) {
		return impl.Node{}
	}
	return follower(n.Id, n.Peers, n.Term, n.Vote, n.Log, 0)
}

// checkStaysRight holds promise 11 for what came of a server.
func checkStaysRight(t *testing.T, n, after impl.Node, sent []impl.Message) {
	t.Helper()
	if !impl.NodeOk(n) {
		if !isZeroNode(after) || len(sent) != 0 {
			t.Fatalf("%+v, which is not NodeOk: %+v and %+v", n, after, sent)
		}
		return
	}
	if !impl.NodeOk(after) || after.Id != n.Id || after.Peers != n.Peers || after.Term < n.Term {
		t.Fatalf("%+v became %+v", n, after)
	}
	if after.Term == n.Term && n.Vote != -1 && after.Vote != n.Vote {
		t.Fatalf("%+v votes twice in one Term: %+v", n, after)
	}
	for _, m := range sent {
		if m.Term != after.Term || m.From != n.Id || m.To == n.Id || m.To < 0 || m.To >= n.Peers || isNoMessageByWords(impl.Node{Id: m.To, Peers: n.Peers}, m) && m.Term > 0 {
			t.Fatalf("%+v became %+v, and sent %+v", n, after, m)
		}
	}
}

// checkCame holds what came of a server against what should come, and against promise 11.
func checkCame(t *testing.T, what any, n, got, want impl.Node, sent, should []impl.Message) {
	t.Helper()
	if !sameNode(got, want) || !sameMessages(sent, should) {
		t.Fatalf("%+v, and %+v:\n%+v and %+v, not\n%+v and %+v", n, what, got, sent, want, should)
	}
	checkStaysRight(t, n, got, sent)
}

func checkTimeout(t *testing.T, n impl.Node) (impl.Node, []impl.Message) {
	t.Helper()
	got, sent := impl.Timeout(n)
	want, should := timeoutByWords(n)
	checkCame(t, "Timeout", n, got, want, sent, should)
	return got, sent
}

func checkBeat(t *testing.T, n impl.Node) []impl.Message {
	t.Helper()
	sent := impl.Beat(n)
	if !sameMessages(sent, beatsByWords(n)) {
		t.Fatalf("Beat of %+v: %+v, not %+v", n, sent, beatsByWords(n))
	}
	return sent
}

func checkPropose(t *testing.T, n impl.Node, text string) (impl.Node, int64) {
	t.Helper()
	got, number := impl.Propose(n, text)
	want, should := proposedByWords(n, text)
	if number != should {
		t.Fatalf("%+v, and %q: %d, not %d", n, text, number, should)
	}
	checkCame(t, text, n, got, want, nil, nil)
	return got, number
}

func checkReceive(t *testing.T, n impl.Node, m impl.Message) (impl.Node, []impl.Message) {
	t.Helper()
	got, sent := impl.Receive(n, m)
	want, should := receivedByWords(n, m)
	checkCame(t, m, n, got, want, sent, should)
	return got, sent
}

func checkRestart(t *testing.T, n impl.Node) impl.Node {
	t.Helper()
	got := impl.Restart(n)
	checkCame(t, "Restart", n, got, restartedByWords(n), nil, nil)
	return got
}

// takeReceive asks for just this server and just these messages.
func takeReceive(t *testing.T, n impl.Node, m impl.Message, want impl.Node, should ...impl.Message) {
	t.Helper()
	got, sent := checkReceive(t, n, m)
	if !sameNode(got, want) || !sameMessages(sent, should) {
		t.Fatalf("%+v, and %+v:\n%+v and %+v, not\n%+v and %+v", n, m, got, sent, want, should)
	}
}

func checkNodeOk(t *testing.T, n impl.Node, right bool) {
	t.Helper()
	if got := impl.NodeOk(n); got != right || right != rightByWords(n) {
		t.Fatalf("%.600v: %v, not %v", n, got, right)
	}
}

// eachRole is a right server of each Role, with a log of 3 entries and Term 4.
func eachRole() []impl.Node {
	log := logOf(0, 1, 2, 4)
	return []impl.Node{
		withCommit(follower(1, 3, 4, 2, log, 0), 1),
		withCommit(standing(1, 3, 4, log, 1), 1),
		withCommit(leader(1, 3, 4, log, []int64{2, 4, 4}, []int64{1, 3, 0}), 1),
	}
}

func TestNodeNumbers(t *testing.T) {
	if impl.MsVote != 1 || impl.MsVoted != 2 || impl.MsAppend != 3 || impl.MsAppended != 4 || impl.MaxPeers != 5 ||
		impl.RlFollow != 1 || impl.RlStand != 2 || impl.RlLead != 3 || impl.MaxSend != 5 {
		t.Fatal("a number is another one")
	}
}

func TestNodeOkOfIdsAndPeers(t *testing.T) {
	for _, peers := range []int64{math.MinInt64, -5, -1, 0, 1, 2, 3, 4, 5, 6, 7, 1 << 32, 1<<32 + 3, math.MaxInt64} {
		right := peers >= 1 && peers <= impl.MaxPeers
		for _, id := range []int64{math.MinInt64, -2, -1, 0, 1, 2, 3, 4, 5, 6, peers - 1, peers, 1 << 32, math.MaxInt64} {
			checkNodeOk(t, follower(id, peers, 1, -1, nil, 0), right && id >= 0 && id < peers)
		}
	}
	checkNodeOk(t, impl.Node{}, false)
}

func TestNodeOkOfTerms(t *testing.T) {
	for _, role := range []int{0, 1, 2} {
		for _, term := range []int64{math.MinInt64, -1, 0, 1, 3, 4, impl.MaxTerm - 1, impl.MaxTerm, impl.MaxTerm + 1, 1 << 32, 1<<32 + 4, math.MaxInt64} {
			n := eachRole()[role]
			n.Term = term
			checkNodeOk(t, n, term >= 4 && term <= impl.MaxTerm)
			n.Log, n.Commit = nil, 0
			if role == 2 {
				n.Next, n.Match = alike(3, 1), alike(3, 0)
			}
			checkNodeOk(t, n, term >= 0 && term <= impl.MaxTerm)
		}
	}
}

func TestNodeOkOfVotes(t *testing.T) {
	for _, n := range eachRole() {
		for _, vote := range []int64{math.MinInt64, -3, -2, -1, 0, 1, 2, 3, 4, 5, 1 << 32, math.MaxInt64} {
			n.Vote = vote
			checkNodeOk(t, n, vote >= -1 && vote <= 2)
		}
	}
	for peers := int64(1); peers <= impl.MaxPeers; peers++ {
		checkNodeOk(t, follower(0, peers, 1, peers-1, nil, 0), true)
		checkNodeOk(t, follower(0, peers, 1, peers, nil, 0), false)
	}
}

func TestNodeOkOfLogs(t *testing.T) {
	for _, n := range eachRole() {
		n.Commit = 0
		if n.Role == impl.RlLead {
			n.Next, n.Match = alike(3, 1), alike(3, 0)
		}
		for name, log := range wrongLogs() {
			n.Term, n.Log = impl.MaxTerm, log
			if impl.NodeOk(n) {
				t.Fatalf("%s: %v", name, n)
			}
		}
		for _, terms := range allTerms(3, 5) {
			n.Term, n.Log = 4, logOf(0, terms...)
			checkNodeOk(t, n, slices.IsSorted(terms) && !slices.Contains(terms, 0) && !slices.Contains(terms, 5))
		}
		for _, term := range []int64{1, impl.MaxTerm} {
			n.Term, n.Log = term, logOf(0, alike(impl.MaxLog, term)...)
			checkNodeOk(t, n, true)
			n.Term = term - 1
			checkNodeOk(t, n, false)
			n.Term, n.Log = term, logOf(0, alike(impl.MaxLog+1, term)...)
			checkNodeOk(t, n, false)
		}
	}
}

func TestNodeOkOfRoles(t *testing.T) {
	for _, role := range []int64{math.MinInt64, -1, 0, 1, 2, 3, 4, 5, 1<<32 + 1, math.MaxInt64} {
		n := follower(0, 3, 1, -1, nil, 0)
		n.Role = role
		checkNodeOk(t, n, role == impl.RlFollow || role == impl.RlStand)
		n.Votes = []int64{0}
		checkNodeOk(t, n, role == impl.RlStand)
		n.Next, n.Match = alike(3, 1), alike(3, 0)
		checkNodeOk(t, n, role == impl.RlLead)
		n.Votes = nil
		checkNodeOk(t, n, role == impl.RlLead)
	}
}

func TestNodeOkOfCommits(t *testing.T) {
	for _, n := range eachRole() {
		for _, commit := range []int64{math.MinInt64, -1, 0, 1, 2, 3, 4, 5, 200, 1 << 32, math.MaxInt64} {
			checkNodeOk(t, withCommit(n, commit), commit >= 0 && commit <= 3)
		}
	}
	checkNodeOk(t, follower(0, 1, 1, -1, nil, 0), true)
	checkNodeOk(t, follower(0, 1, 1, -1, nil, 1), false)
	full := logOf(0, alike(impl.MaxLog, 1)...)
	checkNodeOk(t, follower(0, 1, 1, -1, full, impl.MaxLog), true)
	checkNodeOk(t, follower(0, 1, 1, -1, full, impl.MaxLog+1), false)
}

func TestNodeOkOfListsOfVotes(t *testing.T) {
	for _, votes := range [][]int64{nil, {}, {0}, {1}, {2}, {0, 1}, {0, 2}, {1, 2}, {0, 1, 2}} {
		for _, n := range eachRole() {
			n.Votes = votes
			checkNodeOk(t, n, n.Role != impl.RlFollow || len(votes) == 0)
		}
	}
	for _, votes := range [][]int64{{-1}, {3}, {0, 0}, {1, 1}, {2, 1}, {1, 0}, {2, 0, 1}, {0, 2, 1}, {0, 1, 1}, {0, 0, 1}, {0, 1, 3}, {-1, 0, 1}, {0, 1, 2, 3}, {0, 1, 2, 2}, {math.MinInt64}, {math.MaxInt64}, {0, math.MaxInt64}, {math.MinInt64, 0}, {1 << 32}, {math.MaxInt64, math.MinInt64}} {
		for _, n := range eachRole() {
			n.Votes = votes
			checkNodeOk(t, n, false)
		}
	}
}

func TestNodeOkOfNextAndMatch(t *testing.T) {
	for _, n := range eachRole()[:2] {
		for _, lists := range [][2][]int64{{{1, 1, 1}, {0, 0, 0}}, {{1, 1, 1}, nil}, {nil, {0, 0, 0}}, {{1}, {0}}, {nil, {0}}, {{1}, nil}} {
			n.Next, n.Match = lists[0], lists[1]
			checkNodeOk(t, n, false)
		}
		n.Next, n.Match = []int64{}, []int64{}
		checkNodeOk(t, n, true)
	}
	n := eachRole()[2]
	for count := range 6 {
		n.Next, n.Match = alike(count, 1), alike(3, 0)
		checkNodeOk(t, n, count == 3)
		n.Next, n.Match = alike(3, 1), alike(count, 0)
		checkNodeOk(t, n, count == 3)
		n.Next, n.Match = alike(count, 1), alike(count, 0)
		checkNodeOk(t, n, count == 3)
	}
	for at := range 3 {
		for _, number := range []int64{math.MinInt64, -2, -1, 0, 1, 2, 3, 4, 5, 200, 1 << 32, 1<<32 + 1, math.MaxInt64} {
			n.Next, n.Match = alike(3, 1), alike(3, 0)
			n.Next[at] = number
			checkNodeOk(t, n, number >= 1 && number <= 4)
			n.Next, n.Match = alike(3, 1), alike(3, 0)
			n.Match[at] = number
			checkNodeOk(t, n, number >= 0 && number <= 3)
		}
	}
}

func TestNewNode(t *testing.T) {
	for _, peers := range []int64{math.MinInt64, -3, -1, 0, 1, 2, 3, 4, 5, 6, 7, 1 << 32, 1<<32 + 3, math.MaxInt64} {
		for _, id := range []int64{math.MinInt64, -2, -1, 0, 1, 2, 3, 4, 5, 6, peers - 1, peers, peers + 1, 1 << 32, math.MaxInt64} {
			got, is := impl.NewNode(id, peers)
			if peers < 1 || peers > impl.MaxPeers || id < 0 || id >= peers {
				if is || !isZeroNode(got) {
					t.Fatalf("%d of %d: %v %v", id, peers, got, is)
				}
				continue
			}
			if !is || !impl.NodeOk(got) || !sameNode(got, impl.Node{Id: id, Peers: peers, Vote: -1, Role: impl.RlFollow}) {
				t.Fatalf("%d of %d: %v %v", id, peers, got, is)
			}
		}
	}
}

func TestTimeoutToTheLetter(t *testing.T) {
	n, _ := impl.NewNode(1, 3)
	got, sent := checkTimeout(t, n)
	checkCame(t, "a new one", n, got, standing(1, 3, 1, nil, 1), sent, []impl.Message{vote(1, 1, 0, 0, 0), vote(1, 1, 2, 0, 0)})
	got, sent = checkTimeout(t, got)
	checkCame(t, "once more", n, got, standing(1, 3, 2, nil, 1), sent, []impl.Message{vote(2, 1, 0, 0, 0), vote(2, 1, 2, 0, 0)})

	log := logOf(0, 1, 1, 4)
	n = withCommit(standing(4, 5, 7, log, 0, 4), 2)
	got, sent = checkTimeout(t, n)
	checkCame(t, "one that stands", n, got, withCommit(standing(4, 5, 8, log, 4), 2), sent,
		[]impl.Message{vote(8, 4, 0, 3, 4), vote(8, 4, 1, 3, 4), vote(8, 4, 2, 3, 4), vote(8, 4, 3, 3, 4)})

	n = follower(0, 2, 4, 1, log, 3)
	got, sent = checkTimeout(t, n)
	checkCame(t, "one that voted", n, got, withCommit(standing(0, 2, 5, log, 0), 3), sent, []impl.Message{vote(5, 0, 1, 3, 4)})

	n = leader(0, 3, 4, log, alike(3, 4), []int64{3, 0, 0})
	got, sent = checkTimeout(t, n)
	checkCame(t, "one that leads", n, got, n, sent, nil)
}

func TestTimeoutNearMaxTerm(t *testing.T) {
	for _, n := range []impl.Node{follower(0, 3, impl.MaxTerm, -1, nil, 0), follower(0, 3, impl.MaxTerm, 2, logOf(0, 1, impl.MaxTerm), 1), standing(2, 3, impl.MaxTerm, logOf(0, 1), 2), follower(0, 1, impl.MaxTerm, -1, nil, 0)} {
		got, sent := checkTimeout(t, n)
		checkCame(t, "MaxTerm", n, got, n, sent, nil)
		n.Term, n.Log, n.Commit = impl.MaxTerm-1, nil, 0
		if got, _ = checkTimeout(t, n); got.Term != impl.MaxTerm || got.Vote != n.Id || got.Role == impl.RlFollow {
			t.Fatal(got)
		}
		if again, sent := checkTimeout(t, got); !sameNode(again, got) || len(sent) != 0 {
			t.Fatal(again, sent)
		}
	}
}

func TestTimeoutOfOneAlone(t *testing.T) {
	n, _ := impl.NewNode(0, 1)
	got, sent := checkTimeout(t, n)
	want := withCommit(leader(0, 1, 1, []impl.Entry{entry(1, "none")}, []int64{1}, []int64{1}), 1)
	checkCame(t, "alone", n, got, want, sent, nil)

	log := logOf(0, 1, 3)
	n = follower(0, 1, 5, -1, log, 0)
	got, sent = checkTimeout(t, n)
	want = withCommit(leader(0, 1, 6, append(slices.Clone(log), entry(6, "none")), []int64{3}, []int64{3}), 3)
	checkCame(t, "alone", n, got, want, sent, nil)

	// A log that is full takes no entry of the Term, so nothing of it is agreed on anew.
	full := logOf(0, alike(impl.MaxLog, 2)...)
	n = follower(0, 1, 2, -1, full, 7)
	got, sent = checkTimeout(t, n)
	want = withCommit(leader(0, 1, 3, full, []int64{impl.MaxLog + 1}, []int64{impl.MaxLog}), 7)
	checkCame(t, "alone, full", n, got, want, sent, nil)

	n.Log = full[:impl.MaxLog-1]
	got, sent = checkTimeout(t, n)
	want = withCommit(leader(0, 1, 3, append(slices.Clone(n.Log), entry(3, "none")), []int64{impl.MaxLog}, []int64{impl.MaxLog}), impl.MaxLog)
	checkCame(t, "alone, room for one", n, got, want, sent, nil)
}

func TestTimeoutOfFullLogs(t *testing.T) {
	full := logOf(0, alike(impl.MaxLog, 2)...)
	n := follower(1, 3, 2, 0, full, 3)
	got, sent := checkTimeout(t, n)
	checkCame(t, "full", n, got, withCommit(standing(1, 3, 3, full, 1), 3), sent, []impl.Message{vote(3, 1, 0, impl.MaxLog, 2), vote(3, 1, 2, impl.MaxLog, 2)})
}

func TestBeatToTheLetter(t *testing.T) {
	log := logOf(0, 1, 1, 2, 2, 2, 3, 3, 4)
	n := withCommit(leader(1, 5, 4, log, []int64{1, 2, 4, 9, 8}, []int64{0, 8, 3, 8, 7}), 6)
	sent := checkBeat(t, n)
	want := []impl.Message{
		appends(4, 1, 0, 0, 0, 6, log[:5]...),
		appends(4, 1, 2, 3, 2, 6, log[3:8]...),
		appends(4, 1, 3, 8, 4, 6),
		appends(4, 1, 4, 7, 3, 6, log[7]),
	}
	if !sameMessages(sent, want) {
		t.Fatalf("%+v, not %+v", sent, want)
	}
	for _, n := range eachRole()[:2] {
		if sent := checkBeat(t, n); len(sent) != 0 {
			t.Fatal(sent)
		}
	}
	if sent := checkBeat(t, leader(0, 1, 4, log, []int64{1}, []int64{8})); len(sent) != 0 {
		t.Fatal(sent)
	}
	if sent := checkBeat(t, leader(1, 2, 0, nil, []int64{1, 1}, []int64{0, 0})); !sameMessages(sent, []impl.Message{appends(0, 1, 0, 0, 0, 0)}) {
		t.Fatal(sent)
	}
}

func TestBeatFromEachNext(t *testing.T) {
	for _, count := range []int64{0, 1, 2, 4, 5, 6, 7, 11, impl.MaxLog - 1, impl.MaxLog} {
		log := logOf(0, upTo(count + 1)[1:]...)
		for next := int64(1); next <= count+1; next++ {
			n := leader(0, 2, impl.MaxTerm, log, []int64{1, next}, []int64{count, 0})
			sent := checkBeat(t, n)
			if len(sent) != 1 || sent[0].Index != next-1 || sent[0].LogTerm != next-1 || len(sent[0].Entries) != int(min(impl.MaxSend, count+1-next)) {
				t.Fatalf("%d entries, from %d on: %+v", count, next, sent)
			}
		}
	}
}

func TestProposeToTheLetter(t *testing.T) {
	log := logOf(0, 1, 4)
	n := leader(1, 3, 4, log, []int64{2, 3, 1}, []int64{1, 2, 0})
	got, number := checkPropose(t, n, "ask 3 4")
	want := leader(1, 3, 4, append(slices.Clone(log), entry(4, "ask 3 4")), []int64{2, 3, 1}, []int64{1, 3, 0})
	if number != 3 || !sameNode(got, want) {
		t.Fatalf("%+v %d", got, number)
	}
	got, number = checkPropose(t, got, "none")
	want.Log, want.Match = append(want.Log, entry(4, "none")), []int64{1, 4, 0}
	if number != 4 || !sameNode(got, want) {
		t.Fatalf("%+v %d", got, number)
	}
	for _, n := range eachRole()[:2] {
		if got, number := checkPropose(t, n, "none"); number != -1 || !sameNode(got, n) {
			t.Fatalf("%+v %d", got, number)
		}
	}
}

func TestProposeOfTexts(t *testing.T) {
	n := leader(1, 3, 4, logOf(0, 1, 4), []int64{2, 3, 1}, []int64{1, 2, 0})
	for _, text := range commandTexts() {
		if got, number := checkPropose(t, n, text); number != 3 || len(got.Log) != 3 || got.Log[2] != entry(4, text) {
			t.Fatalf("%q: %v %d", text, got, number)
		}
	}
	for _, text := range otherTexts() {
		if got, number := checkPropose(t, n, text); number != -1 || !sameNode(got, n) {
			t.Fatalf("%q: %v %d", text, got, number)
		}
	}
}

func TestProposeOfOneAlone(t *testing.T) {
	n, _ := impl.NewNode(0, 1)
	n, _ = checkTimeout(t, n)
	for count := int64(2); count <= impl.MaxLog; count++ {
		got, number := checkPropose(t, n, "ask 0 1")
		if number != count || got.Commit != count || got.Match[0] != count || got.Next[0] != 1 {
			t.Fatalf("number %d: %v %d", count, got, number)
		}
		n = got
	}
	if got, number := checkPropose(t, n, "ask 0 1"); number != -1 || !sameNode(got, n) {
		t.Fatal("more than MaxLog entries", number)
	}
}

// TestProposeCommitsWhatOthersMatch: a Match of the others is not asked for when it comes, but for Commit.
func TestProposeCommitsWhatOthersMatch(t *testing.T) {
	log := logOf(0, 1, 4, 4)
	for _, one := range []struct{ match, commit int64 }{{0, 0}, {1, 0}, {2, 2}, {3, 3}} {
		n := leader(0, 3, 4, log, alike(3, 4), []int64{0, one.match, 0})
		if got, number := checkPropose(t, n, "none"); number != 4 || got.Commit != one.commit {
			t.Fatalf("%d: %v", one.match, got)
		}
	}
}

// TestProposeInTermZero: what leads in Term 0 is NodeOk, but an entry of Term 0 would make it wrong.
func TestProposeInTermZero(t *testing.T) {
	for peers := int64(1); peers <= impl.MaxPeers; peers++ {
		n := leader(0, peers, 0, nil, alike(int(peers), 1), alike(int(peers), 0))
		if got, number := checkPropose(t, n, "none"); !impl.NodeOk(n) || number != -1 || !sameNode(got, n) {
			t.Fatalf("%v %d", got, number)
		}
	}
}

// passedOver asks that a server stays as it is, and answers nothing.
func passedOver(t *testing.T, n impl.Node, list ...impl.Message) {
	t.Helper()
	for _, m := range list {
		takeReceive(t, n, m, n)
	}
}

// eachMessage is one of each Kind, and Yes and not, to server 1 from server 2.
func eachMessage(term int64) []impl.Message {
	return []impl.Message{
		vote(term, 2, 1, 9, term), voted(term, 2, 1, true), voted(term, 2, 1, false),
		appends(term, 2, 1, 0, 0, 2), appends(term, 2, 1, 3, 4, 2, entry(term, "none")), appended(term, 2, 1, 3, true), appended(term, 2, 1, 3, false),
	}
}

func TestReceivePassesOverWhatIsNoMessage(t *testing.T) {
	for _, n := range eachRole() {
		for _, term := range []int64{4, 5, impl.MaxTerm} {
			for _, m := range eachMessage(term) {
				for _, to := range []int64{math.MinInt64, -1, 0, 2, 3, 4, 1 << 32, 1<<32 + 1, math.MaxInt64} {
					other := m
					other.To = to
					passedOver(t, n, other)
				}
				for _, from := range []int64{math.MinInt64, -2, -1, 1, 3, 4, 5, 1 << 32, math.MaxInt64} {
					other := m
					other.From = from
					passedOver(t, n, other)
				}
				for _, kind := range []int64{math.MinInt64, -4, -3, -2, -1, 0, 5, 6, 1<<32 + 1, math.MaxInt64} {
					other := m
					other.Kind = kind
					passedOver(t, n, other)
				}
				for _, term := range []int64{math.MinInt64, -1, 0, impl.MaxTerm + 1, 1 << 32, 1<<32 + 4, math.MaxInt64} {
					other := m
					other.Term = term
					other.Entries = nil
					passedOver(t, n, other)
				}
				for _, log := range wrongLogs() {
					other := m
					other.Entries = log
					passedOver(t, n, other)
				}
				for _, terms := range [][]int64{{term + 1}, {1, term + 1}, {term, term + 1}, {1, 1, impl.MaxTerm + 1}} {
					other := m
					other.Entries = logOf(0, terms...)
					passedOver(t, n, other)
				}
			}
		}
	}
}

// TestReceiveOfALaterTerm: whatever the Kind, it follows there, with a Vote for nobody until it votes.
func TestReceiveOfALaterTerm(t *testing.T) {
	for _, n := range eachRole() {
		for _, term := range []int64{5, 6, impl.MaxTerm} {
			fresh := follower(1, 3, term, -1, n.Log, 1)
			given := fresh
			given.Vote = 2
			takeReceive(t, n, vote(term, 2, 1, 3, 4), given, voted(term, 1, 2, true))
			takeReceive(t, n, vote(term, 2, 1, 2, 4), fresh, voted(term, 1, 2, false))
			takeReceive(t, n, voted(term, 2, 1, true), fresh)
			takeReceive(t, n, voted(term, 2, 1, false), fresh)
			takeReceive(t, n, appended(term, 2, 1, 3, true), fresh)
			takeReceive(t, n, appended(term, 2, 1, 0, false), fresh)
			takeReceive(t, n, appends(term, 2, 1, 3, 4, 3), withCommit(fresh, 3), appended(term, 1, 2, 3, true))
			takeReceive(t, n, appends(term, 2, 1, 3, 3, 3), fresh, appended(term, 1, 2, 2, false))
		}
	}
}

// TestReceiveOfAnEarlierTerm: it is answered with its own Term, or not at all.
func TestReceiveOfAnEarlierTerm(t *testing.T) {
	for _, n := range eachRole() {
		for _, term := range []int64{1, 2, 3} {
			takeReceive(t, n, vote(term, 2, 1, 9, 9), n, voted(4, 1, 2, false))
			takeReceive(t, n, appends(term, 2, 1, 0, 0, 3), n, appended(4, 1, 2, 0, false))
			takeReceive(t, n, appends(term, 2, 1, 3, 4, 3), n, appended(4, 1, 2, 0, false))
			takeReceive(t, n, appends(term, 2, 1, 7, 1, 3), n, appended(4, 1, 2, 0, false))
			passedOver(t, n, voted(term, 2, 1, true), voted(term, 2, 1, false), appended(term, 2, 1, 3, true), appended(term, 2, 1, 0, false))
		}
	}
}

func TestVotesToTheLetter(t *testing.T) {
	log := logOf(0, 1, 3)
	for _, one := range []struct {
		vote, index, term int64
		yes               bool
	}{
		{-1, 2, 3, true}, {-1, 3, 3, true}, {-1, 0, 4, true}, {-1, 2, 4, true}, {-1, math.MinInt64, 4, true}, {-1, math.MaxInt64, 3, true}, {-1, 2, math.MaxInt64, true},
		{-1, 1, 3, false}, {-1, 0, 3, false}, {-1, -1, 3, false}, {-1, 2, 2, false}, {-1, 9, 2, false}, {-1, 2, 0, false}, {-1, math.MinInt64, 3, false}, {-1, math.MaxInt64, 2, false}, {-1, 2, math.MinInt64, false},
		{2, 2, 3, true}, {2, 1, 4, true}, {2, 1, 3, false}, {2, 2, 2, false},
		{0, 2, 3, false}, {0, 3, 4, false}, {0, 1, 3, false},
		{1, 2, 3, false}, {1, 3, 4, false}, {1, 1, 3, false},
	} {
		n := follower(1, 3, 4, one.vote, log, 1)
		want := n
		if one.yes {
			want.Vote = 2
		}
		takeReceive(t, n, vote(4, 2, 1, one.index, one.term), want, voted(4, 1, 2, one.yes))
	}
}

// TestVotesOfEachRole: the Role is not asked for, only whom it voted for.
func TestVotesOfEachRole(t *testing.T) {
	for _, n := range eachRole() {
		for given := int64(-1); given <= 2; given++ {
			n.Vote = given
			want := n
			yes := given == -1 || given == 2
			if yes {
				want.Vote = 2
			}
			takeReceive(t, n, vote(4, 2, 1, 3, 4), want, voted(4, 1, 2, yes))
			takeReceive(t, n, vote(4, 2, 1, 2, 4), n, voted(4, 1, 2, false))
		}
	}
}

// TestOneVoteInATerm: of all who ask in one Term, the first whose log is new enough has it, and the others have none.
func TestOneVoteInATerm(t *testing.T) {
	n := follower(4, 5, 6, -1, logOf(0, 1, 3), 0)
	for _, first := range upTo(4) {
		got, _ := checkReceive(t, n, vote(7, (first+1)%4, 4, 1, 3))
		got, sent := checkReceive(t, got, vote(7, first, 4, 2, 3))
		if got.Vote != first || !sent[0].Yes {
			t.Fatal(got, sent)
		}
		for _, from := range append(upTo(4), upTo(4)...) {
			var sent []impl.Message
			got, sent = checkReceive(t, got, vote(7, from, 4, 9, 7))
			if got.Vote != first || sent[0].Yes != (from == first) {
				t.Fatalf("%d, then %d: %v %v", first, from, got, sent)
			}
		}
		got = checkRestart(t, got)
		if got, sent := checkReceive(t, got, vote(7, (first+1)%4, 4, 9, 7)); got.Vote != first || sent[0].Yes {
			t.Fatalf("%d, behind a Restart: %v %v", first, got, sent)
		}
	}
}

func TestVotedToTheLetter(t *testing.T) {
	log := logOf(0, 1, 3)
	n := withCommit(standing(2, 5, 4, log, 2), 1)
	passedOver(t, n, voted(4, 0, 2, false), voted(3, 0, 2, true))
	two := withCommit(standing(2, 5, 4, log, 0, 2), 1)
	takeReceive(t, n, voted(4, 0, 2, true), two)
	passedOver(t, two, voted(4, 0, 2, true), voted(4, 0, 2, false), voted(4, 1, 2, false))

	longer := append(slices.Clone(log), entry(4, "none"))
	led := impl.Node{Id: 2, Peers: 5, Term: 4, Vote: 2, Log: longer, Role: impl.RlLead, Commit: 1, Next: alike(5, 3), Match: []int64{0, 0, 3, 0, 0}}
	for from, votes := range map[int64][]int64{1: {0, 1, 2}, 3: {0, 2, 3}, 4: {0, 2, 4}} {
		want := led
		want.Votes = votes
		var beats []impl.Message
		for _, to := range []int64{0, 1, 3, 4} {
			beats = append(beats, appends(4, 2, to, 2, 3, 1, entry(4, "none")))
		}
		takeReceive(t, two, voted(4, from, 2, true), want, beats...)
		passedOver(t, want, voted(4, from, 2, true), voted(4, (from+2)%5, 2, false), voted(4, 0, 2, true))
	}
	for _, one := range []impl.Node{follower(2, 5, 4, 2, log, 1), follower(2, 5, 4, -1, log, 0)} {
		passedOver(t, one, voted(4, 0, 2, true), voted(4, 0, 2, false))
	}
}

// TestMajorities: more than half of all servers, not half of them.
func TestMajorities(t *testing.T) {
	for peers := int64(2); peers <= impl.MaxPeers; peers++ {
		for id := range peers {
			n := standing(id, peers, 3, nil, id)
			for count := int64(1); n.Role == impl.RlStand; count++ {
				n, _ = checkReceive(t, n, voted(3, (id+count)%peers, id, true))
				if leads := count+1 > peers/2; leads != (n.Role == impl.RlLead) || int64(len(n.Votes)) != count+1 {
					t.Fatalf("%d votes of %d: %v", count+1, peers, n)
				}
			}
		}
	}
}

// TestVotedWithWhatIsAMajorityAlready: such a server is NodeOk, though none becomes so.
func TestVotedWithWhatIsAMajorityAlready(t *testing.T) {
	n := standing(0, 3, 2, nil, 0, 1)
	want, beats := leadsByWords(n)
	takeReceive(t, n, voted(2, 1, 0, true), want, beats...)
	n = standing(0, 3, 2, nil)
	takeReceive(t, n, voted(2, 1, 0, true), standing(0, 3, 2, nil, 1))
}

func TestLeadingWithFullLogs(t *testing.T) {
	full := logOf(0, alike(impl.MaxLog, 2)...)
	n := withCommit(standing(0, 3, 3, full, 0), 9)
	want := withCommit(leader(0, 3, 3, full, alike(3, impl.MaxLog+1), []int64{impl.MaxLog, 0, 0}), 9)
	takeReceive(t, n, voted(3, 1, 0, true), want, appends(3, 0, 1, impl.MaxLog, 2, 9), appends(3, 0, 2, impl.MaxLog, 2, 9))
	n.Log = full[:impl.MaxLog-1]
	want.Log, want.Next = append(slices.Clone(n.Log), entry(3, "none")), alike(3, impl.MaxLog)
	takeReceive(t, n, voted(3, 1, 0, true), want, appends(3, 0, 1, impl.MaxLog-1, 2, 9, entry(3, "none")), appends(3, 0, 2, impl.MaxLog-1, 2, 9, entry(3, "none")))
}

func TestAppendToTheLetter(t *testing.T) {
	log := logOf(0, 1, 1, 3)
	more := logOf(1, 4, 4)
	n := follower(1, 3, 4, 2, log, 1)
	at := func(commit int64, log ...impl.Entry) impl.Node { return follower(1, 3, 4, 2, log, commit) }
	// What fits comes behind, and nothing else goes.
	takeReceive(t, n, appends(4, 2, 1, 3, 3, 0, more...), at(1, append(slices.Clone(log), more...)...), appended(4, 1, 2, 5, true))
	takeReceive(t, n, appends(4, 2, 1, 3, 3, 4, more...), at(4, append(slices.Clone(log), more...)...), appended(4, 1, 2, 5, true))
	takeReceive(t, n, appends(4, 2, 1, 3, 3, 9, more...), at(5, append(slices.Clone(log), more...)...), appended(4, 1, 2, 5, true))
	takeReceive(t, n, appends(4, 2, 1, 2, 1, 3, more...), at(3, log[0], log[1], more[0], more[1]), appended(4, 1, 2, 4, true))
	takeReceive(t, n, appends(4, 2, 1, 1, 1, 0, more...), at(1, log[0], more[0], more[1]), appended(4, 1, 2, 3, true))
	takeReceive(t, n, appends(4, 2, 1, 0, 0, 0, logOf(1, 1, 1)...), n, appended(4, 1, 2, 2, true))
	takeReceive(t, n, appends(4, 2, 1, 0, 0, 3, logOf(1, 1, 1)...), at(2, log...), appended(4, 1, 2, 2, true))
	takeReceive(t, n, appends(4, 2, 1, 0, 0, 3), n, appended(4, 1, 2, 0, true))
	takeReceive(t, n, appends(4, 2, 1, 2, 1, 3), at(2, log...), appended(4, 1, 2, 2, true))
	takeReceive(t, n, appends(4, 2, 1, 3, 3, 3), at(3, log...), appended(4, 1, 2, 3, true))
	// What does not fit is answered by where to try next.
	takeReceive(t, n, appends(4, 2, 1, 3, 4, 3, more...), n, appended(4, 1, 2, 2, false))
	takeReceive(t, n, appends(4, 2, 1, 2, 3, 3), n, appended(4, 1, 2, 1, false))
	takeReceive(t, n, appends(4, 2, 1, 1, 3, 3), n, appended(4, 1, 2, 0, false))
	takeReceive(t, n, appends(4, 2, 1, 0, 1, 3), n, appended(4, 1, 2, 0, false))
	takeReceive(t, n, appends(4, 2, 1, 4, 3, 3), n, appended(4, 1, 2, 3, false))
	takeReceive(t, n, appends(4, 2, 1, 9, 3, 3), n, appended(4, 1, 2, 3, false))
	// What would change what is agreed on is not taken, though it fits.
	takeReceive(t, n, appends(4, 2, 1, 0, 0, 3, more...), n, appended(4, 1, 2, 0, false))
	takeReceive(t, n, appends(4, 2, 1, 0, 0, 3, logOf(1, 1, 2)...), at(2, logOf(0, 1)[0], logOf(1, 1, 2)[1]), appended(4, 1, 2, 2, true))
	takeReceive(t, withCommit(n, 2), appends(4, 2, 1, 0, 0, 3, logOf(1, 1, 2)...), withCommit(n, 2), appended(4, 1, 2, 0, false))
	takeReceive(t, withCommit(n, 3), appends(4, 2, 1, 1, 1, 3, logOf(1, 2)...), withCommit(n, 3), appended(4, 1, 2, 0, false))
	takeReceive(t, withCommit(n, 3), appends(4, 2, 1, 2, 1, 3, logOf(1, 4, 4)...), withCommit(n, 3), appended(4, 1, 2, 1, false))
	// What Merge refuses is not taken either.
	takeReceive(t, n, appends(4, 2, 1, 3, 3, 3, logOf(1, 2)...), n, appended(4, 1, 2, 2, false))
}

func TestAppendOfEachRole(t *testing.T) {
	for _, n := range eachRole()[:2] {
		after := withCommit(follower(1, 3, 4, n.Vote, n.Log, 1), 1)
		takeReceive(t, n, appends(4, 2, 1, 3, 4, 1), after, appended(4, 1, 2, 3, true))
		takeReceive(t, n, appends(4, 2, 1, 3, 3, 1), after, appended(4, 1, 2, 2, false))
		longer := after
		longer.Log = append(slices.Clone(n.Log), entry(4, "none"))
		takeReceive(t, n, appends(4, 2, 1, 3, 4, 4, entry(4, "none")), withCommit(longer, 4), appended(4, 1, 2, 4, true))
	}
	leads := eachRole()[2]
	passedOver(t, leads, appends(4, 2, 1, 3, 4, 1), appends(4, 2, 1, 3, 3, 1), appends(4, 2, 1, 3, 4, 4, entry(4, "none")), appends(4, 0, 1, 0, 0, 0))
}

func TestAppendAtEachIndex(t *testing.T) {
	for _, log := range [][]impl.Entry{nil, logOf(0, 2), logOf(0, 1, 1, 3), logOf(0, upTo(impl.MaxLog + 1)[1:]...)} {
		end := int64(len(log))
		numbers := nearNumbers(log)
		for _, index := range append(numbers[:min(len(numbers), 20)], end-1, end) {
			for _, term := range nearTerms(withNeighbours(log, index)) {
				for _, commit := range []int64{0, end / 2, end} {
					n := follower(0, 2, impl.MaxTerm, -1, log, commit)
					checkReceive(t, n, appends(impl.MaxTerm, 1, 0, index, term, index))
				}
			}
		}
		for _, one := range []struct{ index, told int64 }{{math.MinInt64, 0}, {math.MinInt64 + 1, 0}, {-1, 0}, {end + 1, end}, {end + 2, end}, {math.MaxInt64 - 1, end}, {math.MaxInt64, end}} {
			n := follower(0, 2, impl.MaxTerm, -1, log, 0)
			takeReceive(t, n, appends(impl.MaxTerm, 1, 0, one.index, 0, 0, entry(1, "none")), n, appended(impl.MaxTerm, 0, 1, one.told, false))
			takeReceive(t, n, appends(impl.MaxTerm, 1, 0, one.index, 1, math.MaxInt64), n, appended(impl.MaxTerm, 0, 1, one.told, false))
		}
	}
}

// TestAppendOfCommits: never below what it was, never beyond what was sent.
func TestAppendOfCommits(t *testing.T) {
	log := logOf(0, 1, 1, 3, 3)
	for had := range int64(5) {
		for index := range int64(5) {
			for count := range 5 - index {
				for _, commit := range []int64{math.MinInt64, -1, 0, 1, 2, 3, 4, 5, 6, impl.MaxLog, math.MaxInt64} {
					n := follower(1, 3, 4, -1, log, had)
					want := max(had, min(commit, index+count))
					takeReceive(t, n, appends(4, 0, 1, index, impl.LastTerm(log[:index]), commit, log[index:index+count]...), withCommit(n, want), appended(4, 1, 0, index+count, true))
				}
			}
		}
	}
}

func TestAppendUpToMaxLog(t *testing.T) {
	log := logOf(0, alike(impl.MaxLog-1, 2)...)
	n := follower(1, 3, 4, -1, log, 0)
	want := follower(1, 3, 4, -1, append(slices.Clone(log), entry(4, "none")), impl.MaxLog)
	takeReceive(t, n, appends(4, 0, 1, impl.MaxLog-1, 2, impl.MaxLog, entry(4, "none")), want, appended(4, 1, 0, impl.MaxLog, true))
	takeReceive(t, n, appends(4, 0, 1, impl.MaxLog-1, 2, impl.MaxLog, entry(4, "none"), entry(4, "none")), n, appended(4, 1, 0, impl.MaxLog-2, false))
	empty := follower(1, 3, 4, -1, nil, 0)
	takeReceive(t, empty, appends(4, 0, 1, 0, 0, 100, log...), follower(1, 3, 4, -1, log, 100), appended(4, 1, 0, impl.MaxLog-1, true))
}

func TestAppendedToTheLetter(t *testing.T) {
	log := logOf(0, 1, 3, 4, 4)
	lead := func(commit int64, next, match int64) impl.Node {
		return withCommit(leader(1, 3, 4, log, []int64{next, 5, 1}, []int64{match, 4, 0}), commit)
	}
	for _, one := range []struct {
		index, next, match, commit int64
	}{
		{0, 2, 1, 1}, {1, 2, 1, 1}, {2, 3, 2, 1}, {3, 4, 3, 3}, {4, 5, 4, 4},
		{-1, 2, 1, 1}, {math.MinInt64, 2, 1, 1}, {5, 2, 1, 1}, {6, 2, 1, 1}, {math.MaxInt64, 2, 1, 1},
	} {
		takeReceive(t, lead(1, 3, 1), appended(4, 0, 1, one.index, true), lead(one.commit, one.next, one.match))
	}
	for _, one := range []struct {
		index, next int64
	}{
		{0, 2}, {1, 2}, {2, 3}, {3, 4}, {4, 4}, {5, 4}, {-1, 2}, {math.MinInt64, 2}, {math.MaxInt64, 4}, {math.MaxInt64 - 1, 4},
	} {
		takeReceive(t, lead(1, 5, 1), appended(4, 0, 1, one.index, false), lead(1, one.next, 1))
	}
	// At its least, Next stays.
	for _, index := range []int64{math.MinInt64, -1, 0, 1, 4, math.MaxInt64} {
		takeReceive(t, lead(1, 1, 0), appended(4, 0, 1, index, false), lead(1, 1, 0))
		takeReceive(t, lead(1, 3, 2), appended(4, 0, 1, index, false), lead(1, 3, 2))
	}
	takeReceive(t, lead(1, 1, 4), appended(4, 0, 1, 0, false), lead(1, 5, 4))
	for _, n := range eachRole()[:2] {
		passedOver(t, n, appended(4, 0, 1, 3, true), appended(4, 0, 1, 0, false), appended(4, 2, 1, math.MaxInt64, true))
	}
}

// TestAppendedTakesNoEntryOfAnOlderTerm: a majority has it, yet it is agreed on only with one of the Term behind it.
func TestAppendedTakesNoEntryOfAnOlderTerm(t *testing.T) {
	n := leader(0, 3, 4, logOf(0, 1, 3), alike(3, 1), []int64{2, 0, 0})
	got, _ := checkReceive(t, n, appended(4, 1, 0, 2, true))
	got, _ = checkReceive(t, got, appended(4, 2, 0, 2, true))
	if got.Commit != 0 || got.Match[1] != 2 || got.Match[2] != 2 {
		t.Fatal(got)
	}
	got, _ = checkPropose(t, got, "none")
	if got.Commit != 0 {
		t.Fatal(got)
	}
	got, _ = checkReceive(t, got, appended(4, 2, 0, 3, true))
	if got.Commit != 3 {
		t.Fatal(got)
	}
}

// TestAppendedOfMajorities: Commit goes on with the one that makes the majority, not ahead of it.
func TestAppendedOfMajorities(t *testing.T) {
	for peers := int64(2); peers <= impl.MaxPeers; peers++ {
		log := logOf(0, 1, 2, 2)
		match := alike(int(peers), 0)
		match[0] = 3
		n := leader(0, peers, 2, log, alike(int(peers), 1), match)
		for from := int64(1); from < peers; from++ {
			n, _ = checkReceive(t, n, appended(2, from, 0, 3, true))
			want := int64(0)
			if from+1 > peers/2 {
				want = 3
			}
			if n.Commit != want {
				t.Fatalf("%d of %d: %v", from+1, peers, n)
			}
		}
	}
}

func TestRestartOfEachRole(t *testing.T) {
	for _, n := range eachRole() {
		if got := checkRestart(t, n); !sameNode(got, follower(1, 3, 4, n.Vote, n.Log, 0)) {
			t.Fatal(got)
		}
	}
	for peers := int64(1); peers <= impl.MaxPeers; peers++ {
		for id := range peers {
			n, _ := impl.NewNode(id, peers)
			if got := checkRestart(t, n); !sameNode(got, n) {
				t.Fatal(got)
			}
		}
	}
}

// wrongNodes are not NodeOk, for one fault each.
func wrongNodes() map[string]impl.Node {
	all := map[string]impl.Node{"zero": {}}
	for _, base := range eachRole() {
		for fault, change := range map[string]func(n *impl.Node){
			"Id -1":              func(n *impl.Node) { n.Id = -1 },
			"Id Peers":           func(n *impl.Node) { n.Id = 3 },
			"Peers 0":            func(n *impl.Node) { n.Peers = 0 },
			"Peers 6":            func(n *impl.Node) { n.Peers = 6 },
			"Peers least":        func(n *impl.Node) { n.Peers = math.MinInt64 },
			"Peers greatest":     func(n *impl.Node) { n.Peers = math.MaxInt64 },
			"Term -1":            func(n *impl.Node) { n.Term = -1 },
			"MaxTerm and 1":      func(n *impl.Node) { n.Term = impl.MaxTerm + 1 },
			"Term below the log": func(n *impl.Node) { n.Term = 3 },
			"Vote -2":            func(n *impl.Node) { n.Vote = -2 },
			"Vote Peers":         func(n *impl.Node) { n.Vote = 3 },
			"Log falling":        func(n *impl.Node) { n.Log = logOf(0, 2, 1, 4) },
			"Log with no text":   func(n *impl.Node) { n.Log = append(logOf(0, 1, 1), entry(1, "")) },
			"Role 0":             func(n *impl.Node) { n.Role = 0 },
			"Role 4":             func(n *impl.Node) { n.Role = 4 },
			"Commit -1":          func(n *impl.Node) { n.Commit = -1 },
			"Commit beyond":      func(n *impl.Node) { n.Commit = 4 },
			"Votes twice":        func(n *impl.Node) { n.Votes = []int64{1, 1} },
			"Votes falling":      func(n *impl.Node) { n.Votes = []int64{1, 0} },
			"Votes of none":      func(n *impl.Node) { n.Votes = []int64{0, 3} },
			"Next too long":      func(n *impl.Node) { n.Next = alike(4, 1) },
			"Match too short":    func(n *impl.Node) { n.Match = alike(2, 0) },
			"Next of 0":          func(n *impl.Node) { n.Next = []int64{1, 0, 1} },
			"Next beyond":        func(n *impl.Node) { n.Next = []int64{5, 1, 1} },
			"Match of -1":        func(n *impl.Node) { n.Match = []int64{0, 0, -1} },
			"Match beyond":       func(n *impl.Node) { n.Match = []int64{0, 0, 4} },
		} {
			n := cloneNode(base)
			change(&n)
			all[fault+" in Role "+strconv.FormatInt(base.Role, 10)] = n
		}
	}
	return all
}

func TestWrongNodesGiveNothing(t *testing.T) {
	for name, n := range wrongNodes() {
		if impl.NodeOk(n) || rightByWords(n) {
			t.Fatal(name)
		}
		if got, sent := checkTimeout(t, n); !isZeroNode(got) || len(sent) != 0 {
			t.Fatal(name, got, sent)
		}
		if sent := checkBeat(t, n); len(sent) != 0 {
			t.Fatal(name, sent)
		}
		for _, text := range []string{"none", "", "ask 0 1"} {
			if got, number := checkPropose(t, n, text); !isZeroNode(got) || number != -1 {
				t.Fatal(name, got, number)
			}
		}
		for _, term := range []int64{-1, 0, 3, 4, 5} {
			for _, m := range append(eachMessage(term), impl.Message{}, impl.Message{Term: term, From: 2, To: n.Id}) {
				if got, sent := checkReceive(t, n, m); !isZeroNode(got) || len(sent) != 0 {
					t.Fatal(name, got, sent)
				}
			}
		}
		if got := checkRestart(t, n); !isZeroNode(got) {
			t.Fatal(name, got)
		}
	}
}

// smallNodes are servers of all Roles with short logs, of Peers 1 to 3, with all Votes, Commits and, of one other server, Nexts and Matches.
func smallNodes() []impl.Node {
	var all []impl.Node
	for _, log := range [][]impl.Entry{nil, logOf(0, 1), logOf(0, 2), logOf(0, 1, 2), logOf(0, 1, 1)} {
		end := int64(len(log))
		for peers := int64(1); peers <= 3; peers++ {
			for term := impl.LastTerm(log); term <= 2; term++ {
				for commit := range end + 1 {
					for given := int64(-1); given < peers; given++ {
						n := follower(0, peers, term, given, log, commit)
						all = append(all, n)
						n.Role = impl.RlStand
						for _, votes := range [][]int64{nil, {0}, {1}, {0, 1}, {0, 2}} {
							if n.Votes = votes; rightByWords(n) {
								all = append(all, n)
							}
						}
						n.Role, n.Votes = impl.RlLead, nil
						for place := range (end + 1) * (end + 1) {
							n.Next, n.Match = alike(int(peers), 1), alike(int(peers), 0)
							n.Match[0] = end
							n.Next[peers-1], n.Match[peers-1] = 1+place%(end+1), place/(end+1)
							all = append(all, n)
						}
					}
				}
			}
		}
	}
	return all
}

func TestStepsOfAllSmallNodes(t *testing.T) {
	for _, n := range smallNodes() {
		checkNodeOk(t, n, true)
		checkTimeout(t, n)
		checkBeat(t, n)
		checkPropose(t, n, "ask 0 1")
		checkRestart(t, n)
	}
}

// TestMessagesToAllSmallNodes gives each of them some messages of each Kind, of each Term that is near, from the last server.
func TestMessagesToAllSmallNodes(t *testing.T) {
	r := numbersFrom(134)
	for _, n := range smallNodes() {
		for kind := int64(1); kind <= 4; kind++ {
			for term := max(1, n.Term-1); term <= n.Term+1; term++ {
				for range 3 {
					entries := logOf(1, []int64{1, 1, 2, 3}[r.below(4):][:r.below(2)]...)
					index := r.below(5) - 1
					logTerm := r.below(4)
					if index >= 0 && index <= int64(len(n.Log)) && r.below(2) == 0 {
						logTerm = impl.LastTerm(n.Log[:index])
					}
					checkReceive(t, n, impl.Message{Kind: kind, Term: term, From: n.Peers - 1, Index: index, LogTerm: logTerm, Entries: entries, Commit: r.below(4), Yes: r.below(2) == 0})
				}
			}
		}
	}
}

// someNode is a right one, of any Role.
func someNode(r *numbersFrom) impl.Node {
	peers := 1 + r.below(impl.MaxPeers)
	return someNodeOf(r, r.below(peers), peers)
}

func someNodeOf(r *numbersFrom, id, peers int64) impl.Node {
	log := someLog(r, r.below(12))
	end := int64(len(log))
	n := impl.Node{Id: id, Peers: peers, Term: impl.LastTerm(log) + r.below(3), Log: log, Role: 1 + r.below(3), Commit: r.below(end + 1)}
	n.Vote = r.below(peers+1) - 1
	for server := range peers {
		if n.Role != impl.RlFollow && r.below(2) == 0 {
			n.Votes = append(n.Votes, server)
		}
		if n.Role == impl.RlLead {
			n.Next, n.Match = append(n.Next, 1+r.below(end+1)), append(n.Match, r.below(end+1))
		}
	}
	return n
}

// someMessage is one that such a server may get; sometimes it is not for it, or wrong.
func someMessage(r *numbersFrom, n impl.Node) impl.Message {
	end := int64(len(n.Log))
	m := impl.Message{Kind: 1 + r.below(4), Term: max(1, n.Term+r.below(3)-1), From: r.below(n.Peers), To: n.Id, Index: r.below(end+3) - 1, Commit: r.below(end + 4), Yes: r.below(2) == 0}
	at := min(max(m.Index, 0), end)
	m.LogTerm = impl.LastTerm(n.Log[:at])
	m.Entries = slices.Clone(n.Log[at:min(end, at+r.below(6))])
	for range r.below(4) {
		m.Entries = append(m.Entries, entry(max(1, m.Term-r.below(2)), "ask 1 2"))
	}
	switch r.below(8) {
	case 0:
		m.LogTerm += r.below(3) - 1
	case 1:
		m.Entries = someLog(r, r.below(4))
	case 2:
		m.Entries = logOf(2, alike(int(r.below(6)), m.Term)...)
	}
	if r.below(60) == 0 {
		m.Kind, m.To, m.Term = r.below(6), r.below(5), r.below(3)*50001
	}
	return m
}

func TestStepsOfSomeNodes(t *testing.T) {
	r := numbersFrom(135)
	for range 12000 {
		n := someNode(&r)
		checkNodeOk(t, n, true)
		checkTimeout(t, n)
		checkBeat(t, n)
		checkPropose(t, n, []string{"none", "ask 0 1", "weigh 0 1 5", "no"}[r.below(4)])
		checkRestart(t, n)
		for range 3 {
			checkReceive(t, n, someMessage(&r, n))
		}
	}
}

// TestLongLivesOfOneNode: whatever it is told, one behind the other, it stays right.
func TestLongLivesOfOneNode(t *testing.T) {
	r := numbersFrom(136)
	for peers := int64(1); peers <= impl.MaxPeers; peers++ {
		for id := range peers {
			n, _ := impl.NewNode(id, peers)
			votes := map[int64]int64{}
			for range 400 {
				switch r.below(12) {
				case 0:
					n, _ = checkTimeout(t, n)
				case 1:
					n, _ = checkPropose(t, n, "ask 0 1")
				case 2:
					n = checkRestart(t, n)
				default:
					n, _ = checkReceive(t, n, someMessage(&r, n))
				}
				if before, has := votes[n.Term]; has && n.Vote != before {
					t.Fatalf("two votes in Term %d: %d and %d", n.Term, before, n.Vote)
				}
				if n.Vote != -1 {
					votes[n.Term] = n.Vote
				}
			}
		}
	}
}

// group is servers and the messages between them, without a script.
type group struct {
	nodes []impl.Node
	net   []impl.Message
	led   map[int64]int64
	text  map[int64]impl.Entry
}

func newGroup(peers int64) *group {
	g := &group{led: map[int64]int64{}, text: map[int64]impl.Entry{}}
	for id := range peers {
		n, _ := impl.NewNode(id, peers)
		g.nodes = append(g.nodes, n)
	}
	return g
}

// step does one thing at random: a message comes, is lost or comes twice, or something happens to a server.
func (g *group) step(t *testing.T, r *numbersFrom) {
	var sent []impl.Message
	id := r.below(int64(len(g.nodes)))
	n := &g.nodes[id]
	switch what := r.below(40); {
	case what == 0:
		*n, sent = checkTimeout(t, *n)
	case what == 1:
		*n = checkRestart(t, *n)
	case what < 5:
		*n, _ = checkPropose(t, *n, "ask 0 "+strconv.FormatInt(r.below(24), 10))
	case what < 9:
		sent = checkBeat(t, *n)
	case len(g.net) > 0:
		at := r.below(int64(len(g.net)))
		m := g.net[at]
		if what > 11 {
			g.net = slices.Delete(g.net, int(at), int(at)+1)
		}
		if what > 13 {
			n = &g.nodes[m.To]
			*n, sent = checkReceive(t, *n, m)
		}
	}
	g.net = append(g.net, sent...)
	g.net = g.net[max(0, len(g.net)-60):]
	g.checkAgrees(t, *n)
}

// checkAgrees asks that one server leads in a Term at most, and that what was agreed on once stays so.
func (g *group) checkAgrees(t *testing.T, n impl.Node) {
	if n.Role == impl.RlLead {
		if id, has := g.led[n.Term]; has && id != n.Id {
			t.Fatalf("two lead in Term %d: %d and %d", n.Term, id, n.Id)
		}
		g.led[n.Term] = n.Id
	}
	for i, one := range n.Log[:n.Commit] {
		if there, has := g.text[int64(i)]; has && there != one {
			t.Fatalf("number %d was agreed on twice: %v and %v", i+1, there, one)
		}
		g.text[int64(i)] = one
	}
}

func TestGroupsAgree(t *testing.T) {
	r := numbersFrom(137)
	agreed, led := 0, 0
	for round := range 200 {
		g := newGroup(int64(1 + round%impl.MaxPeers))
		for range 600 {
			g.step(t, &r)
		}
		agreed += len(g.text)
		led += len(g.led)
	}
	if agreed < 2000 || led < 800 {
		t.Fatalf("too little came about: %d entries, %d that led", agreed, led)
	}
}

// TestAllOfAGroupHaveWhatTheFirstHas: one that leads brings each other, whatever it had, to its own log.
func TestAllOfAGroupHaveWhatTheFirstHas(t *testing.T) {
	r := numbersFrom(138)
	for range 80 {
		peers := 2 + r.below(4)
		log := someLog(&r, r.below(20))
		lead := standing(0, peers, impl.LastTerm(log)+2, log, upTo(peers/2)...)
		lead, sent := checkReceive(t, lead, voted(lead.Term, peers-1, 0, true))
		others := map[int64]impl.Node{}
		for id := int64(1); id < peers; id++ {
			part := append(slices.Clone(log[:r.below(int64(len(log))+1)]), logOf(3, alike(int(r.below(8)), lead.Term-1)...)...)
			others[id] = follower(id, peers, lead.Term, 0, part, 0)
		}
		for range 40 {
			for _, m := range sent {
				other, back := checkReceive(t, others[m.To], m)
				others[m.To] = other
				for _, b := range back {
					lead, _ = checkReceive(t, lead, b)
				}
			}
			sent = checkBeat(t, lead)
		}
		for _, other := range others {
			if !slices.Equal(other.Log, lead.Log) || other.Commit != lead.Commit || lead.Commit != int64(len(lead.Log)) {
				t.Fatalf("%+v and %+v", other, lead)
			}
		}
	}
}

type watchedNode struct {
	n                  impl.Node
	m                  impl.Message
	log, entries       watched[impl.Entry]
	votes, next, match watched[int64]
}

func watchNode(n impl.Node, m impl.Message) watchedNode {
	w := watchedNode{n: n, m: m, log: watch(n.Log, markedEntry), entries: watch(m.Entries, markedEntry), votes: watch(n.Votes, markedServer), next: watch(n.Next, markedServer), match: watch(n.Match, markedServer)}
	w.n.Log, w.n.Votes, w.n.Next, w.n.Match, w.m.Entries = w.log.list, w.votes.list, w.next.list, w.match.list, w.entries.list
	return w
}

func (w watchedNode) check(t *testing.T, name string) {
	t.Helper()
	w.log.check(t, name)
	w.entries.check(t, name)
	w.votes.check(t, name)
	w.next.check(t, name)
	w.match.check(t, name)
}

func (w watchedNode) overwrite() {
	overwrite(w.log.whole, entry(-1, ""))
	overwrite(w.entries.whole, entry(-2, ""))
	overwrite(w.votes.whole, -3)
	overwrite(w.next.whole, -4)
	overwrite(w.match.whole, -5)
}

// eachAnswer is what each function answers of the server and the message.
func eachAnswer() map[string]func(n impl.Node, m impl.Message) (impl.Node, []impl.Message) {
	return map[string]func(n impl.Node, m impl.Message) (impl.Node, []impl.Message){
		"Timeout": func(n impl.Node, m impl.Message) (impl.Node, []impl.Message) { return impl.Timeout(n) },
		"Beat":    func(n impl.Node, m impl.Message) (impl.Node, []impl.Message) { return impl.Node{}, impl.Beat(n) },
		"Propose": func(n impl.Node, m impl.Message) (impl.Node, []impl.Message) {
			after, _ := impl.Propose(n, "ask 0 1")
			return after, nil
		},
		"Propose of none": func(n impl.Node, m impl.Message) (impl.Node, []impl.Message) {
			after, _ := impl.Propose(n, "")
			return after, nil
		},
		"Receive": impl.Receive,
		"Restart": func(n impl.Node, m impl.Message) (impl.Node, []impl.Message) { return impl.Restart(n), nil },
	}
}

// eachList is a change to each list of an answer, one at a time.
func eachList(n impl.Node, sent []impl.Message) []func() {
	list := []func(){
		func() { overwrite(n.Log, markedEntry) },
		func() { overwrite(n.Votes, markedServer) },
		func() { overwrite(n.Next, markedServer) },
		func() { overwrite(n.Match, markedServer) },
	}
	for i := range sent {
		list = append(list, func() { overwrite(sent[i].Entries, markedEntry) })
	}
	return list
}

// listsOf is a copy of each list of an answer, numbers and entries alike.
func listsOf(n impl.Node, sent []impl.Message) [][]impl.Entry {
	lists := [][]impl.Entry{slices.Clone(n.Log)}
	for _, numbers := range [][]int64{n.Votes, n.Next, n.Match} {
		lists = append(lists, logOf(0, numbers...))
	}
	for _, m := range sent {
		lists = append(lists, slices.Clone(m.Entries))
	}
	return lists
}

// checkNewNode asks that what is answered is new memory each time, each list of it apart from the others.
func checkNewNode(t *testing.T, name string, w watchedNode, answer func(n impl.Node, m impl.Message) (impl.Node, []impl.Message)) {
	t.Helper()
	impl.NodeOk(w.n)
	first, sent := answer(w.n, w.m)
	second, resent := answer(w.n, w.m)
	w.check(t, name)
	kept, keptSent := cloneNode(second), cloneMessages(resent)
	for i, change := range eachList(first, sent) {
		before := listsOf(first, sent)
		change()
		for j, after := range listsOf(first, sent) {
			if j != i && !slices.Equal(after, before[j]) {
				t.Fatalf("%s: list %d of one answer shares memory with list %d", name, i, j)
			}
		}
	}
	overwrite(sent, impl.Message{Kind: -1})
	w.check(t, name+", an answer written into")
	if third, more := answer(w.n, w.m); !sameNode(third, kept) || !sameMessages(more, keptSent) || !sameNode(second, kept) || !sameMessages(resent, keptSent) {
		t.Fatalf("%s: writing into one answer changed another: %v and %v", name, second, third)
	}
	w.overwrite()
	if !sameNode(second, kept) || !sameMessages(resent, keptSent) {
		t.Fatalf("%s: an answer shares memory with an argument: %v, was %v", name, second, kept)
	}
}

func TestNodeArgumentsStay(t *testing.T) {
	r := numbersFrom(139)
	for name, answer := range eachAnswer() {
		for range 1500 {
			n := someNode(&r)
			checkNewNode(t, name, watchNode(n, someMessage(&r, n)), answer)
		}
		for _, n := range eachRole() {
			for _, m := range eachMessage(4) {
				checkNewNode(t, name, watchNode(n, m), answer)
			}
		}
		for _, n := range wrongNodes() {
			checkNewNode(t, name, watchNode(n, eachMessage(4)[3]), answer)
		}
	}
}

// TestNewNodesAreApart: two of them share no memory.
func TestNewNodesAreApart(t *testing.T) {
	one, _ := impl.NewNode(0, 3)
	other, _ := impl.NewNode(0, 3)
	for _, change := range eachList(one, nil) {
		change()
	}
	if third, _ := impl.NewNode(0, 3); !sameNode(other, third) || !sameNode(other, follower(0, 3, 0, -1, nil, 0)) {
		t.Fatal(other, third)
	}
}
