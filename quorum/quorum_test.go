package quorum

import (
	"math"
	"slices"
	"testing"

	"waystation/api"
)

// fresh is a new quorum of so many nodes.
func fresh(t *testing.T, nodes int) *Quorum {
	t.Helper()
	q, err := New(nodes)
	if q == nil || err != api.OK {
		t.Fatalf("New(%d): %v, %v", nodes, q, err)
	}
	return q
}

func seek(a int) api.Pick           { return api.Pick{Kind: api.PickSeek, A: a} }
func take(a int, v int64) api.Pick  { return api.Pick{Kind: api.PickTake, A: a, B: v} }
func sendTo(a int, b int) api.Pick  { return api.Pick{Kind: api.PickSend, A: a, B: int64(b)} }
func crash(a int) api.Pick          { return api.Pick{Kind: api.PickCrash, A: a} }
func come(pick int) api.Pick        { return api.Pick{Kind: api.PickCome, A: pick} }
func twice(pick int) api.Pick       { return api.Pick{Kind: api.PickTwice, A: pick} }
func lose(pick int) api.Pick        { return api.Pick{Kind: api.PickLose, A: pick} }
func cmd(term, v int64) api.Command { return api.Command{Term: term, Value: v} }

// run does choices, none of which may be refused.
func run(t *testing.T, q *Quorum, l ...api.Pick) {
	t.Helper()
	for i, err := range q.Run(l...) {
		if err != api.OK {
			t.Fatalf("choice %d, %v: %v", i, l[i], err)
		}
	}
}

// refuses fails unless the choice is refused with that error, and changes nothing.
func refuses(t *testing.T, q *Quorum, p api.Pick, want api.Errno) {
	t.Helper()
	was := told(q)
	if err := q.Step(p); err != want {
		t.Errorf("%v: %v, want %v", p, err, want)
	}
	if !sameTold(was, told(q)) {
		t.Errorf("%v was refused, and changed the quorum", p)
	}
}

// all is what a quorum tells of itself.
type all struct {
	nodes     []api.Node
	bag       []api.Ballot
	committed []api.Command
}

func told(q *Quorum) all {
	a := all{bag: q.Bag(), committed: q.Committed()}
	for i := range q.Nodes() {
		n, _ := q.Node(i)
		a.nodes = append(a.nodes, n)
	}
	return a
}

// alikeNode tells whether two nodes are told alike.
func alikeNode(a, b api.Node) bool {
	return a.Role == b.Role && a.Term == b.Term && a.Vote == b.Vote && a.Commit == b.Commit && slices.Equal(a.Log, b.Log) &&
		slices.Equal(a.Votes, b.Votes) && slices.Equal(a.Next, b.Next) && slices.Equal(a.Match, b.Match)
}

// alikeBallot tells whether two messages are told alike, held against each other by what is left of them without the commands.
func alikeBallot(a, b api.Ballot) bool {
	type plain struct {
		kind                      api.BallotKind
		from, to                  int
		term                      int64
		last, prev, match, commit int
		lastTerm, prevTerm        int64
		ok                        bool
	}
	left := func(m api.Ballot) plain {
		return plain{m.Kind, m.From, m.To, m.Term, m.Last, m.Prev, m.Match, m.Commit, m.LastTerm, m.PrevTerm, m.OK}
	}
	return left(a) == left(b) && slices.Equal(a.Commands, b.Commands)
}

func sameTold(a, b all) bool {
	return slices.EqualFunc(a.nodes, b.nodes, alikeNode) && slices.EqualFunc(a.bag, b.bag, alikeBallot) && slices.Equal(a.committed, b.committed)
}

// isNodeAs fails unless a node is told so.
func isNodeAs(t *testing.T, q *Quorum, n int, want api.Node) {
	t.Helper()
	got, err := q.Node(n)
	if err != api.OK || !alikeNode(got, want) {
		t.Errorf("node %d: %v, %v, want %v", n, got, err, want)
	}
}

// isBag fails unless these messages are on their way.
func isBag(t *testing.T, q *Quorum, want ...api.Ballot) {
	t.Helper()
	if got := q.Bag(); !slices.EqualFunc(got, want, alikeBallot) {
		t.Errorf("on their way %v, want %v", got, want)
	}
}

// empty loses all that is on its way.
func empty(t *testing.T, q *Quorum) {
	t.Helper()
	for len(q.Bag()) > 0 {
		run(t, q, lose(0))
	}
}

// elect lets a node seek, and get the votes of those named alone; nothing is on its way then.
func elect(t *testing.T, q *Quorum, at int, voters ...int) {
	t.Helper()
	empty(t, q)
	run(t, q, seek(at))
	for _, v := range voters {
		i := slices.IndexFunc(q.Bag(), func(m api.Ballot) bool { return m.Kind == api.BallotAsk && m.To == v })
		run(t, q, come(i), come(-1))
	}
	empty(t, q)
	if n, _ := q.Node(at); n.Role != api.RoleLeads {
		t.Fatalf("node %d does not lead: %v", at, n)
	}
}

// bring sends from one that leads to another one, and brings the message and its answer.
func bring(t *testing.T, q *Quorum, from, to int) {
	t.Helper()
	run(t, q, sendTo(from, to), come(-1), come(-1))
}

// inject lets a message come as it is, whoever would have sent it, and tells what is sent then.
func inject(t *testing.T, q *Quorum, m api.Ballot) []api.Ballot {
	t.Helper()
	empty(t, q)
	q.onWay = append(q.onWay, m)
	run(t, q, come(0))
	return q.Bag()
}

// noQuorums are those that are not there, or that no call made.
func noQuorums() []*Quorum { return []*Quorum{nil, {}, new(Quorum)} }

// extremes are numbers at the edges of int.
func extremes() []int {
	return []int{math.MinInt, math.MinInt + 1, math.MaxInt, math.MaxInt - 1, math.MinInt32, math.MaxInt32, 1 << 32, -1 << 32}
}

// everyKind are choices of each kind that go well with a node 0 and a node 1.
func everyKind() []api.Pick {
	return []api.Pick{seek(0), take(0, 1), sendTo(0, 1), crash(0), come(0), twice(0), lose(0)}
}

func TestP6_1_Examples(t *testing.T) {
	q := fresh(t, 3)
	run(t, q, seek(0), come(0), come(1))
	isNodeAs(t, q, 0, api.Node{Role: api.RoleLeads, Term: 1, Next: []int{0, 0, 0}, Match: []int{0, 0, 0}})
	run(t, q, take(0, 7), sendTo(0, 1), come(1), come(1))
	isNodeAs(t, q, 0, api.Node{Role: api.RoleLeads, Term: 1, Commit: 1, Log: []api.Command{cmd(1, 7)}, Next: []int{0, 1, 0}, Match: []int{1, 1, 0}})
	got := q.Run(take(1, 0), seek(0), sendTo(0, 0))
	if want := []api.Errno{api.ErrRole, api.ErrRole, api.ErrArg}; !slices.Equal(got, want) {
		t.Errorf("%v, want %v", got, want)
	}
}

func TestP6_1_New(t *testing.T) {
	for _, nodes := range append(extremes(), 0, 2, 4, 6, 7, -1, -3, -5) {
		if q, err := New(nodes); q != nil || err != api.ErrArg {
			t.Errorf("New(%d): %v, %v", nodes, q, err)
		}
	}
	for _, nodes := range []int{1, 3, 5} {
		q := fresh(t, nodes)
		if q.Nodes() != nodes || len(q.Bag()) != 0 || len(q.Committed()) != 0 {
			t.Errorf("%d nodes: %d, %v, %v", nodes, q.Nodes(), q.Bag(), q.Committed())
		}
		for i := range nodes {
			isNodeAs(t, q, i, api.Node{Role: api.RoleVoter, Vote: -1})
		}
	}
}

func TestP6_1_NodesOfANewQuorumShareNothing(t *testing.T) {
	q := fresh(t, 3)
	elect(t, q, 0, 1)
	run(t, q, take(0, 7))
	isNodeAs(t, q, 1, api.Node{Role: api.RoleVoter, Term: 1})
	isNodeAs(t, q, 2, api.Node{Role: api.RoleVoter, Vote: -1})
}

func TestP6_1_NoQuorumIsErrNilAheadOfAll(t *testing.T) {
	refused, _ := New(2)
	for _, q := range append(noQuorums(), refused) {
		l := append(everyKind(), api.Pick{}, api.Pick{Kind: 8}, seek(-1), take(0, math.MaxInt64), sendTo(0, 0))
		errs := q.Run(l...)
		if len(errs) != len(l) {
			t.Fatal(errs)
		}
		for i, p := range l {
			if err := q.Step(p); err != api.ErrNil || errs[i] != api.ErrNil {
				t.Errorf("%v: %v, %v", p, err, errs[i])
			}
		}
		if len(q.Run()) != 0 || q.made() {
			t.Error(q)
		}
	}
}

func TestP6_1_WrongChoices(t *testing.T) {
	for _, nodes := range []int{1, 3, 5} {
		q := fresh(t, nodes)
		others := []int{1, 2, 3, 4}[:(nodes-1)/2]
		elect(t, q, 0, others...)
		for _, kind := range append(extremes(), 0, -1, 8, 9, 100) {
			refuses(t, q, api.Pick{Kind: api.PickKind(kind)}, api.ErrArg)
		}
		for _, a := range append(extremes(), -1, nodes, nodes+1, -nodes) {
			for _, p := range everyKind()[:4] {
				p.A = a
				refuses(t, q, p, api.ErrArg)
			}
			refuses(t, q, api.Pick{Kind: api.PickSend, B: int64(a)}, api.ErrArg)
		}
		for _, b := range []int64{1<<32 + 1, -1<<32 + 1, math.MinInt64, math.MaxInt64} {
			refuses(t, q, api.Pick{Kind: api.PickSend, B: b}, api.ErrArg)
		}
		for a := range nodes {
			refuses(t, q, sendTo(a, a), api.ErrArg)
		}
		for _, v := range []int64{-1<<31 - 1, 1 << 31, -1 << 32, 1 << 32, math.MinInt64, math.MaxInt64} {
			refuses(t, q, take(0, v), api.ErrArg)
		}
	}
}

func TestP6_1_NothingOnItsWay(t *testing.T) {
	q := fresh(t, 3)
	for _, pick := range append(extremes(), 0, 1, -1) {
		for _, p := range []api.Pick{come(pick), twice(pick), lose(pick)} {
			refuses(t, q, p, api.ErrNone)
		}
	}
}

func TestP6_1_ErrorsInOrder(t *testing.T) {
	q := fresh(t, 3)
	// One that does not lead: what may not be is told ahead of its role.
	refuses(t, q, take(1, 1<<31), api.ErrArg)
	refuses(t, q, sendTo(1, 1), api.ErrArg)
	refuses(t, q, sendTo(1, 3), api.ErrArg)
	refuses(t, q, take(1, 1), api.ErrRole)
	refuses(t, q, sendTo(1, 0), api.ErrRole)
	run(t, q, seek(1))
	refuses(t, q, take(1, 1), api.ErrRole)
	refuses(t, q, sendTo(1, 0), api.ErrRole)
	// A full log of one that does not lead, and of one that leads.
	elect(t, q, 1, 0)
	for i := range int64(api.MaxCommands) {
		run(t, q, take(1, i))
	}
	refuses(t, q, take(1, -1<<31-1), api.ErrArg)
	refuses(t, q, take(1, 0), api.ErrLong)
	// The greatest Term of one that leads, and of one that does not.
	q.nodes[1].term, q.nodes[2].term = api.MaxNumber, api.MaxNumber
	refuses(t, q, seek(1), api.ErrRole)
	refuses(t, q, seek(2), api.ErrTop)
	run(t, q, crash(1))
	refuses(t, q, take(1, 0), api.ErrRole)
	refuses(t, q, seek(1), api.ErrTop)
	refuses(t, q, seek(3), api.ErrArg)
}

func TestP6_1_TheGreatestTerm(t *testing.T) {
	q := fresh(t, 3)
	q.nodes[2].term = api.MaxNumber - 1
	run(t, q, seek(2))
	isNodeAs(t, q, 2, api.Node{Role: api.RoleSeeks, Term: api.MaxNumber, Vote: 2, Votes: []int{2}})
	refuses(t, q, seek(2), api.ErrTop)
	run(t, q, come(0), come(-1))
	isNodeAs(t, q, 0, api.Node{Role: api.RoleVoter, Term: api.MaxNumber, Vote: 2})
	if n, _ := q.Node(2); n.Role != api.RoleLeads {
		t.Error(n)
	}
	refuses(t, q, seek(0), api.ErrTop)
}

func TestP6_1_RunGoesOnBehindAnError(t *testing.T) {
	q := fresh(t, 1)
	got := q.Run(take(0, 1), api.Pick{}, come(0), seek(0), take(0, 2), seek(0), sendTo(0, 1))
	want := []api.Errno{api.ErrRole, api.ErrArg, api.ErrNone, api.OK, api.OK, api.ErrRole, api.ErrArg}
	if !slices.Equal(got, want) {
		t.Errorf("%v, want %v", got, want)
	}
	if len(q.Run()) != 0 {
		t.Error("no choices told errors")
	}
}

func TestP6_1_OneNodeAlone(t *testing.T) {
	q := fresh(t, 1)
	run(t, q, seek(0))
	isNodeAs(t, q, 0, api.Node{Role: api.RoleLeads, Term: 1, Next: []int{0}, Match: []int{0}})
	run(t, q, take(0, 7), take(0, 8))
	isNodeAs(t, q, 0, api.Node{Role: api.RoleLeads, Term: 1, Commit: 2, Log: []api.Command{cmd(1, 7), cmd(1, 8)}, Next: []int{0}, Match: []int{2}})
	isBag(t, q)
	run(t, q, crash(0))
	isNodeAs(t, q, 0, api.Node{Role: api.RoleVoter, Term: 1, Log: []api.Command{cmd(1, 7), cmd(1, 8)}})
	run(t, q, seek(0))
	isNodeAs(t, q, 0, api.Node{Role: api.RoleLeads, Term: 2, Log: []api.Command{cmd(1, 7), cmd(1, 8)}, Next: []int{2}, Match: []int{2}})
	if len(q.Committed()) != 0 {
		t.Error("commands of an elder Term are committed by their number alone")
	}
	run(t, q, take(0, 9))
	if want := []api.Command{cmd(1, 7), cmd(1, 8), cmd(2, 9)}; !slices.Equal(q.Committed(), want) {
		t.Errorf("%v, want %v", q.Committed(), want)
	}
}

func TestP6_1_SeekAsksEachOther(t *testing.T) {
	q := fresh(t, 5)
	elect(t, q, 3, 0, 1)
	run(t, q, take(3, 1), take(3, 2), crash(3), seek(3))
	var want []api.Ballot
	for _, to := range []int{0, 1, 2, 4} {
		want = append(want, api.Ballot{Kind: api.BallotAsk, From: 3, To: to, Term: 2, Last: 2, LastTerm: 1})
	}
	isBag(t, q, want...)
	isNodeAs(t, q, 3, api.Node{Role: api.RoleSeeks, Term: 2, Vote: 3, Votes: []int{3}, Log: []api.Command{cmd(1, 1), cmd(1, 2)}})
	// It seeks again, with votes of this Term no more.
	run(t, q, come(0), come(-1))
	isNodeAs(t, q, 3, api.Node{Role: api.RoleSeeks, Term: 2, Vote: 3, Votes: []int{0, 3}, Log: []api.Command{cmd(1, 1), cmd(1, 2)}})
	run(t, q, seek(3))
	isNodeAs(t, q, 3, api.Node{Role: api.RoleSeeks, Term: 3, Vote: 3, Votes: []int{3}, Log: []api.Command{cmd(1, 1), cmd(1, 2)}})
}

func TestP6_1_AMajorityIsMoreThanHalf(t *testing.T) {
	for _, nodes := range []int{3, 5} {
		q := fresh(t, nodes)
		run(t, q, seek(0))
		for voters := 2; voters <= nodes; voters++ {
			n, _ := q.Node(0)
			if n.Role != api.RoleSeeks || len(n.Votes) != voters-1 {
				t.Errorf("%d of %d: %v", voters-1, nodes, n)
			}
			run(t, q, come(0), come(-1))
			if n, _ := q.Node(0); 2*voters > nodes {
				if n.Role != api.RoleLeads || n.Votes != nil || len(n.Next) != nodes || len(n.Match) != nodes {
					t.Errorf("%d of %d: %v", voters, nodes, n)
				}
				break
			}
		}
	}
}

func TestP6_1_AVoteThatComesTwiceIsOne(t *testing.T) {
	q := fresh(t, 5)
	run(t, q, seek(0), come(0), twice(-1), twice(-1), come(-1))
	isNodeAs(t, q, 0, api.Node{Role: api.RoleSeeks, Term: 1, Votes: []int{0, 1}})
}

func TestP6_1_WhoSeesAGreaterTermVotes(t *testing.T) {
	for kind := api.BallotAsk; kind <= api.BallotMatch; kind++ {
		for _, role := range []api.NodeRole{api.RoleVoter, api.RoleSeeks, api.RoleLeads} {
			q := fresh(t, 3)
			elect(t, q, 0, 1)
			run(t, q, take(0, 5))
			bring(t, q, 0, 1)
			if role != api.RoleLeads {
				run(t, q, crash(0))
			}
			if role == api.RoleSeeks {
				run(t, q, seek(0))
			}
			n, _ := q.Node(0)
			if n.Role != role {
				t.Fatal(n)
			}
			// Its log is behind, so that no vote is granted; it stands behind more than the node has, so that nothing is laid.
			inject(t, q, api.Ballot{Kind: kind, From: 1, To: 0, Term: 9, Prev: 7, PrevTerm: 9, OK: true})
			isNodeAs(t, q, 0, api.Node{Role: api.RoleVoter, Term: 9, Vote: -1, Commit: n.Commit, Log: []api.Command{cmd(1, 5)}})
		}
	}
}

func TestP6_1_Asked(t *testing.T) {
	// Node 0 has three commands, the last of Term 2, and is in Term 5, where it voted for nobody or for node 2.
	for _, x := range []struct {
		why      string
		vote     int
		term     int64
		last     int
		lastTerm int64
		want     bool
	}{
		{"alike", -1, 5, 3, 2, true},
		{"longer", -1, 5, 4, 2, true},
		{"shorter by one", -1, 5, 2, 2, false},
		{"shorter, of a greater Term", -1, 5, 1, 3, true},
		{"longer, of a lesser Term", -1, 5, 9, 1, false},
		{"empty", -1, 5, 0, 0, false},
		{"of a Term below", -1, 4, 3, 2, false},
		{"of a Term above", -1, 6, 3, 2, true},
		{"of a Term above, behind", -1, 6, 2, 2, false},
		{"voted for another one", 2, 5, 3, 2, false},
		{"voted for another one of a Term below", 2, 6, 3, 2, true},
		{"voted for the sender", 1, 5, 3, 2, true},
		{"voted for the sender, whose log is behind", 1, 5, 2, 2, false},
		{"voted for the sender, of a Term below", 1, 4, 3, 2, false},
		{"voted for itself", 0, 5, 3, 2, false},
	} {
		q := fresh(t, 3)
		q.nodes[0].lasting = lasting{5, x.vote, []api.Command{cmd(1, 1), cmd(2, 2), cmd(2, 3)}}
		got := inject(t, q, api.Ballot{Kind: api.BallotAsk, From: 1, To: 0, Term: x.term, Last: x.last, LastTerm: x.lastTerm})
		term, vote := max(5, x.term), x.vote
		if x.term > 5 {
			vote = -1
		}
		if x.want {
			vote = 1
		}
		if want := []api.Ballot{{Kind: api.BallotVote, From: 0, To: 1, Term: term, OK: x.want}}; !slices.EqualFunc(got, want, alikeBallot) {
			t.Errorf("%s: %v, want %v", x.why, got, want)
		}
		if n, _ := q.Node(0); n.Term != term || n.Vote != vote || n.Role != api.RoleVoter || len(n.Log) != 3 {
			t.Errorf("%s: %v", x.why, n)
		}
	}
}

func TestP6_1_AskedAgain(t *testing.T) {
	q := fresh(t, 3)
	run(t, q, seek(0), seek(1))
	// To 2 from 0, to 0 and to 2 from 1, all of Term 1.
	run(t, q, lose(0))
	run(t, q, twice(0), come(0), come(1))
	isBag(t, q,
		api.Ballot{Kind: api.BallotAsk, From: 1, To: 0, Term: 1},
		api.Ballot{Kind: api.BallotVote, From: 2, To: 0, Term: 1, OK: true},
		api.Ballot{Kind: api.BallotVote, From: 2, To: 0, Term: 1, OK: true},
		api.Ballot{Kind: api.BallotVote, From: 2, To: 1, Term: 1})
	run(t, q, come(0))
	isNodeAs(t, q, 0, api.Node{Role: api.RoleSeeks, Term: 1, Vote: 0, Votes: []int{0}})
	run(t, q, come(2))
	isNodeAs(t, q, 1, api.Node{Role: api.RoleSeeks, Term: 1, Vote: 1, Votes: []int{1}})
	// A vote lasts: behind a crash none is granted to another one.
	run(t, q, crash(2), seek(1), lose(-1), lose(-1))
	isNodeAs(t, q, 2, api.Node{Role: api.RoleVoter, Term: 1, Vote: 0})
	got := inject(t, q, api.Ballot{Kind: api.BallotAsk, From: 1, To: 2, Term: 1})
	if want := []api.Ballot{{Kind: api.BallotVote, From: 2, To: 1, Term: 1}}; !slices.EqualFunc(got, want, alikeBallot) {
		t.Errorf("%v, want %v", got, want)
	}
}

func TestP6_1_VotesThatCountNot(t *testing.T) {
	vote := api.Ballot{Kind: api.BallotVote, From: 1, To: 0, Term: 1, OK: true}
	// One that seeks no more: it crashed, leads, or votes.
	crashed := fresh(t, 3)
	run(t, crashed, seek(0), crash(0))
	inject(t, crashed, vote)
	isNodeAs(t, crashed, 0, api.Node{Role: api.RoleVoter, Term: 1})
	led := fresh(t, 3)
	elect(t, led, 0, 1)
	run(t, led, take(0, 1))
	bring(t, led, 0, 1)
	vote.From = 2
	inject(t, led, vote)
	isNodeAs(t, led, 0, api.Node{Role: api.RoleLeads, Term: 1, Commit: 1, Log: []api.Command{cmd(1, 1)}, Next: []int{0, 1, 0}, Match: []int{1, 1, 0}})
	// One that seeks in a later Term, or gets none.
	again := fresh(t, 3)
	run(t, again, seek(0), seek(0))
	inject(t, again, vote)
	isNodeAs(t, again, 0, api.Node{Role: api.RoleSeeks, Term: 2, Votes: []int{0}})
	vote.Term, vote.OK = 2, false
	inject(t, again, vote)
	isNodeAs(t, again, 0, api.Node{Role: api.RoleSeeks, Term: 2, Votes: []int{0}})
	vote.OK = true
	inject(t, again, vote)
	isNodeAs(t, again, 0, api.Node{Role: api.RoleLeads, Term: 2, Next: []int{0, 0, 0}, Match: []int{0, 0, 0}})
}

func TestP6_1_More(t *testing.T) {
	// Node 1 is in Term 4, with commands of the Terms 1, 1, 2, 3, of which it knows one to be committed.
	log := []api.Command{cmd(1, 10), cmd(1, 11), cmd(2, 12), cmd(3, 13)}
	for _, x := range []struct {
		why      string
		term     int64
		prev     int
		prevTerm int64
		commands []api.Command
		commit   int
		ok       bool
		match    int
		log      []api.Command
		known    int
	}{
		{"a Term below", 3, 4, 3, []api.Command{cmd(3, 14)}, 4, false, 0, log, 1},
		{"Prev of 0, no commands", 4, 0, 0, nil, 0, true, 0, log, 1},
		{"Prev of 0, the same commands", 4, 0, 0, log, 0, true, 4, log, 1},
		{"Prev of 0, some of the same", 4, 0, 0, log[:2], 9, true, 2, log, 2},
		{"Prev of 0, others", 4, 0, 0, []api.Command{cmd(4, 20)}, 0, true, 1, []api.Command{cmd(4, 20)}, 1},
		{"Prev of the length, no commands", 4, 4, 3, nil, 9, true, 4, log, 4},
		{"Prev of the length, one more", 4, 4, 3, []api.Command{cmd(4, 14)}, 5, true, 5, slices.Concat(log, []api.Command{cmd(4, 14)}), 5},
		{"Prev of the length, of another Term", 4, 4, 4, []api.Command{cmd(4, 14)}, 5, false, 3, log, 1},
		{"Prev above the length by one", 4, 5, 3, []api.Command{cmd(4, 14)}, 5, false, 4, log, 1},
		{"Prev far above the length", 4, 9, 3, nil, 5, false, 4, log, 1},
		{"Prev in the middle, of another Term", 4, 2, 2, log[2:], 5, false, 1, log, 1},
		{"Prev of 1, of another Term", 4, 1, 2, nil, 5, false, 0, log, 1},
		{"commands that part", 4, 1, 1, []api.Command{cmd(1, 11), cmd(4, 20), cmd(4, 21)}, 2, true, 4, []api.Command{cmd(1, 10), cmd(1, 11), cmd(4, 20), cmd(4, 21)}, 2},
		{"commands that part, fewer", 4, 1, 1, []api.Command{cmd(4, 20)}, 0, true, 2, []api.Command{cmd(1, 10), cmd(4, 20)}, 1},
		{"commands that go on", 4, 2, 1, []api.Command{cmd(2, 12), cmd(3, 13), cmd(4, 14)}, 4, true, 5, slices.Concat(log, []api.Command{cmd(4, 14)}), 4},
		{"commands that stand, with more behind them", 4, 1, 1, log[1:3], 9, true, 3, log, 3},
		{"a Commit below what was laid", 4, 2, 1, log[2:], 3, true, 4, log, 3},
		{"a Commit below the node's", 4, 2, 1, log[2:], 0, true, 4, log, 1},
		{"a Term above", 7, 4, 3, []api.Command{cmd(7, 14)}, 0, true, 5, slices.Concat(log, []api.Command{cmd(7, 14)}), 1},
	} {
		q := fresh(t, 3)
		q.nodes[1].lasting = lasting{4, 1, copied(log)}
		q.nodes[1].passing = passing{role: api.RoleSeeks, commit: 1, votes: numbers{1: 1}}
		given := copied(x.commands)
		got := inject(t, q, api.Ballot{Kind: api.BallotMore, From: 2, To: 1, Term: x.term, Prev: x.prev, PrevTerm: x.prevTerm, Commit: x.commit, Commands: given})
		if want := []api.Ballot{{Kind: api.BallotMatch, From: 1, To: 2, Term: max(x.term, 4), OK: x.ok, Match: x.match}}; !slices.EqualFunc(got, want, alikeBallot) {
			t.Errorf("%s: %v, want %v", x.why, got, want)
		}
		want := api.Node{Role: api.RoleVoter, Term: max(x.term, 4), Vote: 1, Commit: x.known, Log: x.log}
		if x.term < 4 {
			want.Role, want.Votes = api.RoleSeeks, []int{1}
		}
		if x.term > 4 {
			want.Vote = -1
		}
		if n, _ := q.Node(1); !alikeNode(n, want) {
			t.Errorf("%s: %v, want %v", x.why, n, want)
		}
		if !slices.Equal(given, x.commands) {
			t.Errorf("%s: the message's commands were changed", x.why)
		}
	}
}

func TestP6_1_WhatIsAboveMaxCommandsIsNotTaken(t *testing.T) {
	long := make([]api.Command, api.MaxCommands+3)
	for i := range long {
		long[i] = cmd(1, int64(i))
	}
	for _, has := range []int{api.MaxCommands - 2, api.MaxCommands - 1, api.MaxCommands} {
		q := fresh(t, 3)
		q.nodes[1].lasting = lasting{1, -1, copied(long[:has])}
		prev := api.MaxCommands - 2
		for _, m := range []api.Ballot{
			{Prev: prev, PrevTerm: 1, Commands: long[prev : prev+4], Commit: 300},
			{Prev: api.MaxCommands, PrevTerm: 1, Commands: long[api.MaxCommands:], Commit: 300},
		} {
			m.Kind, m.From, m.To, m.Term = api.BallotMore, 0, 1, 1
			got := inject(t, q, m)
			if want := []api.Ballot{{Kind: api.BallotMatch, From: 1, To: 0, Term: 1, OK: true, Match: api.MaxCommands}}; !slices.EqualFunc(got, want, alikeBallot) {
				t.Errorf("%d, Prev %d: %v, want %v", has, m.Prev, got, want)
			}
			isNodeAs(t, q, 1, api.Node{Role: api.RoleVoter, Term: 1, Vote: -1, Commit: api.MaxCommands, Log: long[:api.MaxCommands]})
		}
	}
}

func TestP6_1_AFullLogIsCopied(t *testing.T) {
	q := fresh(t, 3)
	elect(t, q, 2, 0)
	var want []api.Command
	for i := range int64(api.MaxCommands) {
		run(t, q, take(2, -i))
		want = append(want, cmd(1, -i))
	}
	refuses(t, q, take(2, 1), api.ErrLong)
	for i := range api.MaxCommands / 4 {
		bring(t, q, 2, 1)
		if got := q.Committed(); !slices.Equal(got, want[:4*i+4]) {
			t.Fatalf("%d committed", len(got))
		}
	}
	refuses(t, q, take(2, 1), api.ErrLong)
	bring(t, q, 2, 1)
	isNodeAs(t, q, 1, api.Node{Role: api.RoleVoter, Term: 1, Vote: -1, Commit: api.MaxCommands, Log: want})
}

func TestP6_1_Matched(t *testing.T) {
	// Node 0 leads in Term 3 with commands of the Terms 1, 3, 3, 3.
	log := []api.Command{cmd(1, 1), cmd(3, 2), cmd(3, 3), cmd(3, 4)}
	for _, x := range []struct {
		why                 string
		next, known         int
		ok                  bool
		told                int
		wantNext, wantMatch int
		commit              int
		term                int64
	}{
		{why: "as many as are there", next: 1, ok: true, told: 4, wantNext: 4, wantMatch: 4, commit: 4},
		{why: "some", next: 1, ok: true, told: 2, wantNext: 2, wantMatch: 2, commit: 2},
		{why: "one of an elder Term", next: 1, ok: true, told: 1, wantNext: 1, wantMatch: 1},
		{why: "less than Next", next: 4, ok: true, told: 2, wantNext: 4, wantMatch: 2, commit: 2},
		{why: "less than before", next: 3, known: 3, ok: true, told: 1, wantNext: 3, wantMatch: 3, commit: 3},
		{why: "the same as before", next: 3, known: 3, ok: true, told: 3, wantNext: 3, wantMatch: 3, commit: 3},
		{why: "not OK, less than Next", next: 3, known: 1, told: 2, wantNext: 2, wantMatch: 1},
		{why: "not OK, the sender's Match", next: 3, known: 1, told: 1, wantNext: 1, wantMatch: 1},
		{why: "not OK, below the sender's Match", next: 4, known: 1, told: 0, wantNext: 1, wantMatch: 1},
		{why: "not OK, as Next", next: 2, told: 2, wantNext: 2},
		{why: "not OK, above Next", next: 1, told: 4, wantNext: 1},
		{why: "not OK, nothing", next: 4, told: 0},
		{why: "of a Term below", next: 1, ok: true, told: 4, wantNext: 1, term: 2},
		{why: "of a Term below, not OK", next: 3, told: 0, wantNext: 3, term: 2},
	} {
		q := fresh(t, 3)
		q.nodes[0].lasting = lasting{3, 0, copied(log)}
		q.nodes[0].passing = passing{role: api.RoleLeads, next: numbers{4, 4, x.next}, match: numbers{4, 0, x.known}}
		term := x.term
		if term == 0 {
			term = 3
		}
		if got := inject(t, q, api.Ballot{Kind: api.BallotMatch, From: 2, To: 0, Term: term, OK: x.ok, Match: x.told}); len(got) != 0 {
			t.Errorf("%s: sent %v", x.why, got)
		}
		want := api.Node{Role: api.RoleLeads, Term: 3, Log: log, Commit: x.commit, Next: []int{4, 4, x.wantNext}, Match: []int{4, 0, x.wantMatch}}
		if n, _ := q.Node(0); !alikeNode(n, want) {
			t.Errorf("%s: %v, want %v", x.why, n, want)
		}
	}
}

func TestP6_1_MatchAtOneThatLeadsNot(t *testing.T) {
	q := fresh(t, 3)
	elect(t, q, 0, 1)
	run(t, q, take(0, 1), sendTo(0, 1), come(-1), crash(0), come(-1))
	isNodeAs(t, q, 0, api.Node{Role: api.RoleVoter, Term: 1, Log: []api.Command{cmd(1, 1)}})
	run(t, q, seek(0))
	inject(t, q, api.Ballot{Kind: api.BallotMatch, From: 1, To: 0, Term: 2, OK: true, Match: 1})
	isNodeAs(t, q, 0, api.Node{Role: api.RoleSeeks, Term: 2, Votes: []int{0}, Log: []api.Command{cmd(1, 1)}})
}

func TestP6_1_MatchesOfAMajorityAtOneThatLeadsNoMore(t *testing.T) {
	q := fresh(t, 3)
	elect(t, q, 0, 1)
	run(t, q, take(0, 1), sendTo(0, 1), come(-1), sendTo(0, 2), come(-1), crash(0))
	was := q.Copy()
	run(t, q, come(0), come(0))
	run(t, was, lose(0), lose(0))
	isNodeAs(t, q, 0, api.Node{Role: api.RoleVoter, Term: 1, Log: []api.Command{cmd(1, 1)}})
	if !Same(q, was) {
		t.Error("what came to one that leads no more is kept")
	}
}

func TestP6_1_CommitNeverFalls(t *testing.T) {
	q := fresh(t, 3)
	log := []api.Command{cmd(3, 1), cmd(3, 2), cmd(3, 3)}
	q.nodes[0].lasting = lasting{3, 0, copied(log)}
	q.nodes[0].passing = passing{role: api.RoleLeads, commit: 3, match: numbers{3, 0, 0}}
	inject(t, q, api.Ballot{Kind: api.BallotMatch, From: 2, To: 0, Term: 3, OK: true, Match: 1})
	isNodeAs(t, q, 0, api.Node{Role: api.RoleLeads, Term: 3, Commit: 3, Log: log, Next: []int{0, 0, 1}, Match: []int{3, 0, 1}})
}

func TestP6_1_FiveCommitWhatThreeHave(t *testing.T) {
	q := fresh(t, 5)
	elect(t, q, 0, 1, 2)
	run(t, q, take(0, 1), take(0, 2), take(0, 3))
	commit := func() int { n, _ := q.Node(0); return n.Commit }
	match := func(from, told int) {
		inject(t, q, api.Ballot{Kind: api.BallotMatch, From: from, To: 0, Term: 1, OK: true, Match: told})
	}
	match(4, 3)
	if commit() != 0 {
		t.Error("two of five have it")
	}
	match(2, 1)
	if commit() != 1 {
		t.Error(commit())
	}
	match(3, 2)
	if commit() != 2 {
		t.Error(commit())
	}
	match(1, 3)
	if commit() != 3 {
		t.Error(commit())
	}
}

func TestP6_1_AnElderTermIsNotCommittedByItsNumberAlone(t *testing.T) {
	q := fresh(t, 3)
	elect(t, q, 0, 1)
	run(t, q, take(0, 1))
	// Nobody hears of it; node 0 crashes twice, leads again, and brings it to all.
	run(t, q, crash(0), seek(0), crash(0))
	elect(t, q, 0, 1)
	for range 2 {
		bring(t, q, 0, 1)
		bring(t, q, 0, 2)
	}
	isNodeAs(t, q, 0, api.Node{Role: api.RoleLeads, Term: 3, Log: []api.Command{cmd(1, 1)}, Next: []int{1, 1, 1}, Match: []int{1, 1, 1}})
	run(t, q, take(0, 2))
	isNodeAs(t, q, 0, api.Node{Role: api.RoleLeads, Term: 3, Log: []api.Command{cmd(1, 1), cmd(3, 2)}, Next: []int{1, 1, 1}, Match: []int{2, 1, 1}})
	bring(t, q, 0, 2)
	isNodeAs(t, q, 0, api.Node{Role: api.RoleLeads, Term: 3, Commit: 2, Log: []api.Command{cmd(1, 1), cmd(3, 2)}, Next: []int{1, 1, 2}, Match: []int{2, 1, 2}})
}

func TestP6_1_Values(t *testing.T) {
	q := fresh(t, 1)
	run(t, q, seek(0))
	var want []api.Command
	for _, v := range []int64{math.MinInt32, math.MinInt32 + 1, -1, 0, 1, math.MaxInt32 - 1, math.MaxInt32} {
		run(t, q, take(0, v))
		want = append(want, cmd(1, v))
	}
	if !slices.Equal(q.Committed(), want) {
		t.Errorf("%v, want %v", q.Committed(), want)
	}
}

func TestP6_1_Send(t *testing.T) {
	q := fresh(t, 3)
	elect(t, q, 1, 0)
	run(t, q, take(1, 10), sendTo(1, 0))
	isBag(t, q, api.Ballot{Kind: api.BallotMore, From: 1, To: 0, Term: 1, Commands: []api.Command{cmd(1, 10)}})
	run(t, q, come(0), come(0))
	for v := range int64(5) {
		run(t, q, take(1, 11+v))
	}
	// Four of five behind Next, all of six from the beginning but two, none.
	run(t, q, sendTo(1, 0), sendTo(1, 2))
	isBag(t, q,
		api.Ballot{Kind: api.BallotMore, From: 1, To: 0, Term: 1, Prev: 1, PrevTerm: 1, Commit: 1, Commands: []api.Command{cmd(1, 11), cmd(1, 12), cmd(1, 13), cmd(1, 14)}},
		api.Ballot{Kind: api.BallotMore, From: 1, To: 2, Term: 1, Commit: 1, Commands: []api.Command{cmd(1, 10), cmd(1, 11), cmd(1, 12), cmd(1, 13)}})
	run(t, q, come(0), come(-1), lose(0), sendTo(1, 0), come(0), come(0), sendTo(1, 0))
	isBag(t, q, api.Ballot{Kind: api.BallotMore, From: 1, To: 0, Term: 1, Prev: 6, PrevTerm: 1, Commit: 6})
	// What was sent stays as it was sent, whatever the log is then.
	run(t, q, sendTo(1, 2), take(1, 99))
	if m := q.Bag()[1]; len(m.Commands) != 4 || m.Commands[3] != cmd(1, 13) {
		t.Error(m)
	}
}

func TestP6_1_WhatWasSentStaysWhenTheLogIsCut(t *testing.T) {
	q := fresh(t, 3)
	elect(t, q, 0, 1)
	run(t, q, take(0, 1), take(0, 2), sendTo(0, 1))
	inject := api.Ballot{Kind: api.BallotMore, From: 2, To: 0, Term: 9, Commands: []api.Command{cmd(9, 8), cmd(9, 9)}}
	q.onWay = append(q.onWay, inject)
	run(t, q, come(-1), come(0))
	if n, _ := q.Node(1); !slices.Equal(n.Log, []api.Command{cmd(1, 1), cmd(1, 2)}) {
		t.Error(n)
	}
}

func TestP6_1_Crash(t *testing.T) {
	q := fresh(t, 3)
	run(t, q, seek(0), crash(0))
	isNodeAs(t, q, 0, api.Node{Role: api.RoleVoter, Term: 1})
	if len(q.Bag()) != 2 {
		t.Error("a crash took what was on its way")
	}
	elect(t, q, 0, 1)
	run(t, q, take(0, 1))
	bring(t, q, 0, 1)
	bring(t, q, 0, 1)
	run(t, q, crash(0), crash(1), crash(2))
	isNodeAs(t, q, 0, api.Node{Role: api.RoleVoter, Term: 2, Log: []api.Command{cmd(2, 1)}})
	isNodeAs(t, q, 1, api.Node{Role: api.RoleVoter, Term: 2, Log: []api.Command{cmd(2, 1)}})
	isNodeAs(t, q, 2, api.Node{Role: api.RoleVoter, Vote: -1})
	if len(q.Committed()) != 0 {
		t.Error(q.Committed())
	}
}

func TestP6_1_Picks(t *testing.T) {
	for _, x := range []struct{ pick, to int }{
		{0, 1}, {1, 2}, {2, 3}, {3, 4}, {4, 1}, {7, 4}, {-1, 4}, {-2, 3}, {-4, 1}, {-5, 4}, {400, 1}, {-400, 1},
		{math.MaxInt, 4}, {math.MinInt, 1}, {math.MinInt + 1, 2}, {math.MaxInt - 1, 3},
	} {
		q := fresh(t, 5)
		run(t, q, seek(0))
		var left []api.Ballot
		for _, m := range q.Bag() {
			if m.To != x.to {
				left = append(left, m)
			}
		}
		vote := api.Ballot{Kind: api.BallotVote, From: x.to, To: 0, Term: 1, OK: true}
		lost, doubled := q.Copy(), q.Copy()
		run(t, q, come(x.pick))
		isBag(t, q, append(copied(left), vote)...)
		all := doubled.Bag()
		run(t, doubled, twice(x.pick))
		isBag(t, doubled, append(all, vote)...)
		run(t, lost, lose(x.pick))
		isBag(t, lost, left...)
		for i, n := range told(lost).nodes {
			if i > 0 && (n.Term != 0 || n.Vote != -1) {
				t.Errorf("what was lost came: %v", n)
			}
		}
	}
}

func TestP6_1_AsManyAsMaxCrowd(t *testing.T) {
	q := fresh(t, 5)
	for range api.MaxCrowd / 4 {
		run(t, q, seek(0))
	}
	full := q.Bag()
	if len(full) != api.MaxCrowd {
		t.Fatal(len(full))
	}
	// What is sent now is lost, but what sends it is done.
	run(t, q, seek(0))
	isBag(t, q, full...)
	isNodeAs(t, q, 0, api.Node{Role: api.RoleSeeks, Term: 65, Vote: 0, Votes: []int{0}})
	// What comes and stays leaves no room for an answer.
	run(t, q, twice(-1))
	isBag(t, q, full...)
	isNodeAs(t, q, 4, api.Node{Role: api.RoleVoter, Term: 64})
	// What comes and is on its way no more does.
	run(t, q, come(0))
	isBag(t, q, append(copied(full[1:]), api.Ballot{Kind: api.BallotVote, From: 1, To: 0, Term: 1, OK: true})...)
	// Of several the first ones that have room are sent.
	run(t, q, lose(-1), lose(-1), seek(3))
	if l := q.Bag(); len(l) != api.MaxCrowd || l[254].To != 0 || l[255].To != 1 || l[255].From != 3 || l[253].From != 0 {
		t.Error(len(l), l[253:])
	}
	run(t, q, lose(7), seek(0))
	if l := q.Bag(); len(l) != api.MaxCrowd || l[255].To != 1 || l[255].From != 0 {
		t.Error(len(l), l[253:])
	}
}

func TestP6_1_SendToACrowd(t *testing.T) {
	q := fresh(t, 3)
	elect(t, q, 0, 1)
	run(t, q, take(0, 1))
	for range api.MaxCrowd {
		run(t, q, sendTo(0, 1))
	}
	full := q.Bag()
	run(t, q, sendTo(0, 2))
	isBag(t, q, full...)
	run(t, q, twice(3))
	isBag(t, q, full...)
	isNodeAs(t, q, 1, api.Node{Role: api.RoleVoter, Term: 1, Log: []api.Command{cmd(1, 1)}})
}

func TestP6_2_NodeAsksForOneThatIsThere(t *testing.T) {
	for _, nodes := range []int{1, 3, 5} {
		q := fresh(t, nodes)
		for _, n := range append(extremes(), -1, nodes, nodes+1, -nodes) {
			if got, err := q.Node(n); err != api.ErrArg || !alikeNode(got, api.Node{}) {
				t.Errorf("Node(%d): %v, %v", n, got, err)
			}
		}
	}
	for _, q := range noQuorums() {
		for _, n := range append(extremes(), 0, 1, -1) {
			if got, err := q.Node(n); err != api.ErrNil || !alikeNode(got, api.Node{}) {
				t.Errorf("Node(%d): %v, %v", n, got, err)
			}
		}
		if q.Bag() != nil || q.Committed() != nil || q.Nodes() != 0 {
			t.Error(q.Bag(), q.Committed(), q.Nodes())
		}
	}
}

func TestP6_2_CommittedIsOfTheGreatestCommit(t *testing.T) {
	q := fresh(t, 3)
	for i := range q.nodes {
		q.nodes[i].log = []api.Command{cmd(1, int64(10*i)), cmd(1, int64(10*i+1)), cmd(1, int64(10*i+2))}
	}
	for _, x := range []struct {
		commits [3]int
		want    []api.Command
	}{
		{[3]int{0, 0, 0}, nil},
		{[3]int{1, 1, 1}, []api.Command{cmd(1, 0)}},
		{[3]int{0, 1, 1}, []api.Command{cmd(1, 10)}},
		{[3]int{1, 1, 2}, []api.Command{cmd(1, 20), cmd(1, 21)}},
		{[3]int{2, 3, 2}, []api.Command{cmd(1, 10), cmd(1, 11), cmd(1, 12)}},
		{[3]int{3, 2, 1}, []api.Command{cmd(1, 0), cmd(1, 1), cmd(1, 2)}},
	} {
		for i, c := range x.commits {
			q.nodes[i].commit = c
		}
		if got := q.Committed(); !slices.Equal(got, x.want) {
			t.Errorf("%v: %v, want %v", x.commits, got, x.want)
		}
	}
}

// busy is a quorum in which node 0 leads, node 2 seeks, and messages of all kinds are on their way.
func busy(t *testing.T) *Quorum {
	t.Helper()
	q := fresh(t, 3)
	elect(t, q, 0, 1)
	run(t, q, take(0, 1), take(0, 2))
	bring(t, q, 0, 1)
	run(t, q, take(0, 3), sendTo(0, 1), sendTo(0, 2), sendTo(0, 2), come(2), seek(2), come(-1))
	kinds := map[api.BallotKind]int{}
	for _, m := range q.Bag() {
		kinds[m.Kind]++
	}
	if len(kinds) != 4 {
		t.Fatal(q.Bag())
	}
	return q
}

func TestP6_2_WhatIsToldAndIsChangedThenChangesNothing(t *testing.T) {
	q := busy(t)
	was, again := told(q), told(q)
	for _, n := range was.nodes {
		for _, l := range [][]int{n.Votes, n.Next, n.Match} {
			for i := range l {
				l[i] = 77
			}
			_ = append(l, 78)
		}
		for i := range n.Log {
			n.Log[i].Value = 77
		}
		_ = append(n.Log, cmd(7, 7))
	}
	for i := range was.bag {
		for j := range was.bag[i].Commands {
			was.bag[i].Commands[j].Term = 77
		}
		_ = append(was.bag[i].Commands, cmd(7, 7))
		was.bag[i].Kind = 0
	}
	for i := range was.committed {
		was.committed[i].Value = 77
	}
	_ = append(was.committed, cmd(7, 7))
	if !sameTold(told(q), again) {
		t.Error("what was told is the quorum's own")
	}
	run(t, q, take(0, 4), come(0))
	q.Run(come(0), come(0), come(0), take(0, 5), crash(1), seek(0))
	if !slices.EqualFunc(again.bag, busy(t).Bag(), alikeBallot) || !slices.EqualFunc(again.nodes, told(busy(t)).nodes, alikeNode) {
		t.Error("what goes on changes what was told")
	}
}

func TestP6_2_NoPartOfAnAnswerIsSharedWithAnother(t *testing.T) {
	q := fresh(t, 3)
	elect(t, q, 0, 1)
	run(t, q, take(0, 1), sendTo(0, 1), sendTo(0, 1))
	l := q.Bag()
	l[0].Commands[0].Value = 9
	if l[1].Commands[0].Value != 1 {
		t.Error("two messages share commands")
	}
	n, _ := q.Node(0)
	n.Next[0] = 9
	_ = append(n.Next, 9)
	if n.Match[0] != 1 {
		t.Error("Next and Match share")
	}
}

func TestP6_2_MessagesAreGoneOverTillOneLeaves(t *testing.T) {
	n := 0
	for m := range busy(t).onWay.inOrder() {
		n++
		if m.Kind == api.BallotMore {
			break
		}
	}
	if n != 1 {
		t.Error(n)
	}
}

func TestP6_3_NoQuorums(t *testing.T) {
	q := fresh(t, 1)
	for _, a := range noQuorums() {
		if a.Copy() != nil {
			t.Error("a copy of none")
		}
		for _, b := range noQuorums() {
			if !Same(a, b) {
				t.Error("none is not like none")
			}
		}
		if Same(a, q) || Same(q, a) {
			t.Error("none is like one")
		}
	}
}

func TestP6_3_CopyGoesOnApart(t *testing.T) {
	a := busy(t)
	b := a.Copy()
	if !Same(a, b) || !Same(b, a) || !sameTold(told(a), told(b)) {
		t.Fatal("a copy is not the same")
	}
	was := told(a)
	b.Run(take(0, 9), sendTo(0, 1), come(0), come(0), crash(0), seek(1), come(-1), lose(0))
	if !sameTold(was, told(a)) || Same(a, b) {
		t.Error("what is done to a copy is done to the other one")
	}
	c := a.Copy()
	was = told(c)
	a.Run(take(0, 9), sendTo(0, 1), come(0), come(0), crash(0), seek(1), come(-1), lose(0))
	if !sameTold(was, told(c)) || Same(a, c) {
		t.Error("what is done to the other one is done to a copy")
	}
	if !Same(a, b) {
		t.Error("the same choices made two others of the same")
	}
}

func TestP6_3_LogsOfACopyAreItsOwn(t *testing.T) {
	// Spare room behind a log is where its next command would lie.
	a := fresh(t, 1)
	run(t, a, seek(0), take(0, 1), take(0, 2), take(0, 3))
	b := a.Copy()
	run(t, a, take(0, 4))
	run(t, b, take(0, 5))
	if got := a.Committed()[3]; got != cmd(1, 4) {
		t.Error(got)
	}
	if got := b.Committed()[3]; got != cmd(1, 5) {
		t.Error(got)
	}
	b.nodes[0].log[0].Value = 9
	if got := a.Committed()[0]; got != cmd(1, 1) {
		t.Error(got)
	}
}

func TestP6_3_SameAsksAll(t *testing.T) {
	at := func(q *Quorum, kind api.BallotKind) *api.Ballot {
		i := slices.IndexFunc(q.onWay, func(m api.Ballot) bool { return m.Kind == kind })
		return &q.onWay[i]
	}
	for i, change := range []func(q *Quorum){
		func(q *Quorum) { q.nodes = append(q.nodes, newNode(), newNode()) },
		func(q *Quorum) { q.nodes[1].term++ },
		func(q *Quorum) { q.nodes[1].vote = -1 },
		func(q *Quorum) { q.nodes[1].log[0].Value++ },
		func(q *Quorum) { q.nodes[1].log[0].Term++ },
		func(q *Quorum) { q.nodes[1].log = q.nodes[1].log[:1] },
		func(q *Quorum) { q.nodes[0].role = api.RoleVoter },
		func(q *Quorum) { q.nodes[0].commit-- },
		func(q *Quorum) { q.nodes[0].next[2]++ },
		func(q *Quorum) { q.nodes[0].match[2]++ },
		func(q *Quorum) { q.nodes[2].votes[1] = 1 },
		func(q *Quorum) { q.nodes[0], q.nodes[1] = q.nodes[1], q.nodes[0] },
		func(q *Quorum) { q.onWay = q.onWay[1:] },
		func(q *Quorum) { q.onWay = append(q.onWay, q.onWay[0]) },
		func(q *Quorum) { q.onWay[0], q.onWay[1] = q.onWay[1], q.onWay[0] },
		func(q *Quorum) { q.onWay[0].Kind = api.BallotMatch },
		func(q *Quorum) { q.onWay[0].From = 1 },
		func(q *Quorum) { q.onWay[0].To = 2 },
		func(q *Quorum) { q.onWay[0].Term++ },
		func(q *Quorum) { at(q, api.BallotAsk).Last++ },
		func(q *Quorum) { at(q, api.BallotAsk).LastTerm++ },
		func(q *Quorum) { m := at(q, api.BallotVote); m.OK = !m.OK },
		func(q *Quorum) { at(q, api.BallotMore).Prev++ },
		func(q *Quorum) { at(q, api.BallotMore).PrevTerm++ },
		func(q *Quorum) { at(q, api.BallotMore).Commit++ },
		func(q *Quorum) { at(q, api.BallotMore).Commands[0].Value++ },
		func(q *Quorum) { at(q, api.BallotMore).Commands[0].Term++ },
		func(q *Quorum) { at(q, api.BallotMore).Commands = nil },
		func(q *Quorum) { at(q, api.BallotMatch).Match++ },
	} {
		a, b := busy(t), busy(t)
		if !Same(a, b) {
			t.Fatal("two of the same choices are not the same")
		}
		change(b)
		if Same(a, b) || Same(b, a) {
			t.Errorf("change %d is not seen", i)
		}
		if !Same(b, b.Copy()) {
			t.Errorf("change %d is not copied", i)
		}
	}
}

func TestP6_3_SameByChoices(t *testing.T) {
	if Same(fresh(t, 1), fresh(t, 3)) || Same(fresh(t, 5), fresh(t, 3)) {
		t.Error("unlike in how many nodes there are")
	}
	lead := func() *Quorum {
		q := fresh(t, 3)
		elect(t, q, 0, 1)
		return q
	}
	// Unlike in one message alone.
	a, b := lead(), lead()
	run(t, a, sendTo(0, 1))
	run(t, b, sendTo(0, 2))
	if Same(a, b) {
		t.Error("unlike in one message")
	}
	empty(t, a)
	if Same(a, b) {
		t.Error("unlike in one message that is not there")
	}
	empty(t, b)
	if !Same(a, b) {
		t.Error("alike again")
	}
	// Unlike in one command alone.
	run(t, a, take(0, 1))
	run(t, b, take(0, 2))
	if Same(a, b) {
		t.Error("unlike in one command")
	}
}

func TestP6_3_UnlikeInOneNextAlone(t *testing.T) {
	a := fresh(t, 3)
	elect(t, a, 0, 1)
	run(t, a, take(0, 1), crash(0))
	elect(t, a, 0, 1)
	run(t, a, sendTo(0, 2), come(-1))
	b := a.Copy()
	run(t, a, come(-1))
	run(t, b, lose(-1))
	x, _ := a.Node(0)
	y, _ := b.Node(0)
	if !slices.Equal(x.Next, []int{1, 1, 0}) || !slices.Equal(y.Next, []int{1, 1, 1}) {
		t.Fatal(x, y)
	}
	if Same(a, b) || Same(b, a) {
		t.Error("unlike in one Next")
	}
}

func TestP6_3_WhatARoleHasNoMoreIsNotHeldAgainst(t *testing.T) {
	// The one sought and got votes, or led, and is a voter now by a greater Term; the other one only heard of it.
	a, b := fresh(t, 3), fresh(t, 3)
	for _, q := range []*Quorum{a, b} {
		elect(t, q, 0, 1)
	}
	run(t, a, sendTo(0, 1), come(-1), come(-1))
	run(t, b, crash(0))
	for _, q := range []*Quorum{a, b} {
		run(t, q, seek(2), seek(2), come(-2), crash(1))
		empty(t, q)
		isNodeAs(t, q, 0, api.Node{Role: api.RoleVoter, Term: 2, Vote: 2})
	}
	if !sameTold(told(a), told(b)) || !Same(a, b) {
		t.Error(told(a), told(b))
	}
}
