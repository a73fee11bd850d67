package quorum

import (
	"maps"
	"math/big"
	"slices"
	"strconv"
	"strings"
	"testing"

	"waystation/api"
)

// plainNode is a node told another way: what a role does not have is not there at all.
type plainNode struct {
	role        api.NodeRole
	term        int64
	vote        int
	commit      int
	log         []api.Command
	votes       map[int]int
	next, match map[int]int
}

// plain is a quorum told another way, as near to the chapter's words as may be.
type plain struct {
	count int
	nodes map[int]*plainNode
	bag   []api.Ballot
}

func newPlain(count int) *plain {
	p := &plain{count: count, nodes: map[int]*plainNode{}}
	for i := range count {
		p.nodes[i] = &plainNode{role: api.RoleVoter, vote: -1}
	}
	return p
}

func (p *plain) copied() *plain {
	c := &plain{count: p.count, nodes: map[int]*plainNode{}, bag: slices.Clone(p.bag)}
	for i, n := range p.nodes {
		m := *n
		m.log, m.votes, m.next, m.match = slices.Clone(n.log), maps.Clone(n.votes), maps.Clone(n.next), maps.Clone(n.match)
		c.nodes[i] = &m
	}
	return c
}

func (p *plain) refuses(c api.Pick) api.Errno {
	n, there := p.nodes[c.A]
	switch c.Kind {
	case api.PickSeek:
		switch {
		case !there:
			return api.ErrArg
		case n.role == api.RoleLeads:
			return api.ErrRole
		case n.term == api.MaxNumber:
			return api.ErrTop
		}
	case api.PickTake:
		switch {
		case !there || c.B < -2147483648 || c.B > 2147483647:
			return api.ErrArg
		case n.role != api.RoleLeads:
			return api.ErrRole
		case len(n.log) == 256:
			return api.ErrLong
		}
	case api.PickSend:
		switch {
		case !there || c.B < 0 || c.B >= int64(p.count) || c.B == int64(c.A):
			return api.ErrArg
		case n.role != api.RoleLeads:
			return api.ErrRole
		}
	case api.PickCrash:
		if !there {
			return api.ErrArg
		}
	case api.PickCome, api.PickTwice, api.PickLose:
		if len(p.bag) == 0 {
			return api.ErrNone
		}
	default:
		return api.ErrArg
	}
	return api.OK
}

func (p *plain) step(c api.Pick) api.Errno {
	if err := p.refuses(c); err != api.OK {
		return err
	}
	n := p.nodes[c.A]
	switch c.Kind {
	case api.PickSeek:
		n.term++
		n.vote = c.A
		n.role, n.votes = api.RoleSeeks, map[int]int{c.A: 1}
		p.countVotes(c.A)
		for i := range p.count {
			if i != c.A {
				p.send(api.Ballot{Kind: api.BallotAsk, From: c.A, To: i, Term: n.term, Last: len(n.log), LastTerm: lastTerm(n.log)})
			}
		}
	case api.PickTake:
		n.log = append(slices.Clone(n.log), api.Command{Term: n.term, Value: c.B})
		n.match[c.A]++
		p.countMatches(n)
	case api.PickSend:
		to := int(c.B)
		ahead, behind := n.log[:n.next[to]], n.log[n.next[to]:]
		if len(behind) > 4 {
			behind = behind[:4]
		}
		p.send(api.Ballot{Kind: api.BallotMore, From: c.A, To: to, Term: n.term, Prev: len(ahead), PrevTerm: lastTerm(ahead), Commands: slices.Clone(behind), Commit: n.commit})
	case api.PickCrash:
		p.nodes[c.A] = &plainNode{role: api.RoleVoter, term: n.term, vote: n.vote, log: n.log}
	default:
		p.pick(c)
	}
	return api.OK
}

// pick does what is done with a message, whose place is worked out with numbers without bounds.
func (p *plain) pick(c api.Pick) {
	i := int(new(big.Int).Mod(big.NewInt(int64(c.A)), big.NewInt(int64(len(p.bag)))).Int64())
	m := p.bag[i]
	if c.Kind != api.PickTwice {
		p.bag = slices.Concat(p.bag[:i], p.bag[i+1:])
	}
	if c.Kind != api.PickLose {
		p.come(m)
	}
}

func (p *plain) send(m api.Ballot) {
	if len(p.bag) < 256 {
		p.bag = append(slices.Clone(p.bag), m)
	}
}

func lastTerm(l []api.Command) int64 {
	if len(l) == 0 {
		return 0
	}
	return l[len(l)-1].Term
}

func (n *plainNode) voterOnly() {
	n.role, n.votes, n.next, n.match = api.RoleVoter, nil, nil, nil
}

func (p *plain) come(m api.Ballot) {
	n := p.nodes[m.To]
	if m.Term > n.term {
		n.term, n.vote = m.Term, -1
		n.voterOnly()
	}
	switch m.Kind {
	case api.BallotAsk:
		own := lastTerm(n.log)
		isBehind := m.LastTerm < own || m.LastTerm == own && m.Last < len(n.log)
		ok := false
		if m.Term == n.term && !isBehind && (n.vote == -1 || n.vote == m.From) {
			ok = true
			n.vote = m.From
		}
		p.send(api.Ballot{Kind: api.BallotVote, From: m.To, To: m.From, Term: n.term, OK: ok})
	case api.BallotVote:
		if n.role == api.RoleSeeks && n.term == m.Term && m.OK {
			n.votes[m.From] = 1
			p.countVotes(m.To)
		}
	case api.BallotMore:
		p.send(p.more(n, m))
	case api.BallotMatch:
		if n.role != api.RoleLeads || n.term != m.Term {
			return
		}
		if m.OK {
			if m.Match > n.match[m.From] {
				n.match[m.From] = m.Match
			}
			if n.match[m.From] > n.next[m.From] {
				n.next[m.From] = n.match[m.From]
			}
		} else if m.Match < n.next[m.From] {
			n.next[m.From] = m.Match
			if m.Match < n.match[m.From] {
				n.next[m.From] = n.match[m.From]
			}
		}
		p.countMatches(n)
	}
}

func (p *plain) more(n *plainNode, m api.Ballot) api.Ballot {
	back := api.Ballot{Kind: api.BallotMatch, From: m.To, To: m.From, Term: n.term}
	if m.Term < n.term {
		return back
	}
	n.voterOnly()
	if len(n.log) < m.Prev || lastTerm(n.log[:m.Prev]) != m.PrevTerm {
		back.Match = len(n.log)
		if m.Prev-1 < back.Match {
			back.Match = m.Prev - 1
		}
		return back
	}
	laid := 0
	for i, c := range m.Commands {
		at := m.Prev + i
		if at == 256 {
			break
		}
		if at < len(n.log) && n.log[at].Term != c.Term {
			n.log = slices.Clone(n.log[:at])
		}
		if at == len(n.log) {
			n.log = append(slices.Clone(n.log), c)
		}
		laid++
	}
	if c := min(m.Commit, m.Prev+laid); c > n.commit {
		n.commit = c
	}
	back.OK, back.Match = true, m.Prev+laid
	return back
}

func (p *plain) countVotes(at int) {
	n := p.nodes[at]
	if 2*len(n.votes) <= p.count {
		return
	}
	n.role, n.votes, n.next, n.match = api.RoleLeads, nil, map[int]int{}, map[int]int{}
	for i := range p.count {
		n.next[i] = len(n.log)
	}
	n.match[at] = len(n.log)
}

func (p *plain) countMatches(n *plainNode) {
	for k := len(n.log); k > n.commit; k-- {
		have := 0
		for _, match := range n.match {
			if match >= k {
				have++
			}
		}
		if 2*have > p.count && n.log[k-1].Term == n.term {
			n.commit = k
		}
	}
}

// told is all of it, as a quorum tells it.
func (p *plain) told() all {
	a := all{bag: p.bag}
	most := 0
	for i := range p.count {
		n := p.nodes[i]
		x := api.Node{Role: n.role, Term: n.term, Vote: n.vote, Commit: n.commit, Log: n.log}
		switch n.role {
		case api.RoleSeeks:
			x.Votes = slices.Sorted(maps.Keys(n.votes))
		case api.RoleLeads:
			for j := range p.count {
				x.Next, x.Match = append(x.Next, n.next[j]), append(x.Match, n.match[j])
			}
		}
		a.nodes = append(a.nodes, x)
		if n.commit > p.nodes[most].commit {
			most = i
		}
	}
	a.committed = p.nodes[most].log[:p.nodes[most].commit]
	return a
}

// watch holds what P6.4 promises against all that was told so far.
type watch struct {
	leader   map[int64]int
	greatest int64
	longest  []api.Command
}

// begins tells whether the one list is a beginning of the other.
func begins(l, of []api.Command) bool { return len(l) <= len(of) && slices.Equal(l, of[:len(l)]) }

// see tells what is broken in what is told now, or nothing.
func (w *watch) see(a all) string {
	for i, n := range a.nodes {
		if n.Role == api.RoleLeads {
			if was, any := w.leader[n.Term]; any && was != i {
				return "two lead in one Term"
			}
			w.leader[n.Term] = i
			w.greatest = max(w.greatest, n.Term)
		}
		if n.Commit > len(n.Log) {
			return "more is committed than there is"
		}
		if why := w.kept(n.Log[:n.Commit]); why != "" {
			return why
		}
	}
	if why := w.kept(a.committed); why != "" {
		return why
	}
	for _, n := range a.nodes {
		if n.Role == api.RoleLeads && n.Term == w.greatest && !begins(w.longest, n.Log) {
			return "who leads lacks what was committed"
		}
	}
	return ""
}

func (w *watch) kept(l []api.Command) string {
	switch {
	case begins(l, w.longest):
	case begins(w.longest, l):
		w.longest = slices.Clone(l)
	default:
		return "what was committed is another one"
	}
	return ""
}

func (w *watch) copied() *watch {
	return &watch{maps.Clone(w.leader), w.greatest, w.longest}
}

// life is a quorum, the plain one beside it, and what watches both.
type life struct {
	q *Quorum
	p *plain
	w *watch
}

func newLife(t *testing.T, nodes int) life {
	t.Helper()
	return life{fresh(t, nodes), newPlain(nodes), &watch{leader: map[int64]int{}}}
}

func (l life) copied() life { return life{l.q.Copy(), l.p.copied(), l.w.copied()} }

// step does a choice to both, and fails if they answer or stand unlike, or if what P6.4 promises is broken.
func (l life) step(t *testing.T, c api.Pick) api.Errno {
	t.Helper()
	got, want := l.q.Step(c), l.p.step(c)
	if got != want {
		t.Fatalf("%v: %v, want %v", c, got, want)
	}
	a := told(l.q)
	if b := l.p.told(); !sameTold(a, b) {
		t.Fatalf("%v: %v, want %v", c, a, b)
	}
	if why := l.w.see(a); why != "" {
		t.Fatalf("%v: %s: %v", c, why, a)
	}
	return got
}

// key is all of a life as a text, by which lives that stand alike are lived on once. What was committed and who led are part of it: P6.4 hangs on them.
func (l life) key() string {
	var b strings.Builder
	number := func(n int64) { b.WriteString(strconv.FormatInt(n, 36)); b.WriteByte(' ') }
	commands := func(l []api.Command) {
		number(int64(len(l)))
		for _, c := range l {
			number(c.Term)
			number(c.Value)
		}
	}
	a := told(l.q)
	for _, n := range a.nodes {
		number(int64(n.Role))
		number(n.Term)
		number(int64(n.Vote))
		number(int64(n.Commit))
		commands(n.Log)
		for _, l := range [][]int{n.Votes, n.Next, n.Match} {
			for _, x := range l {
				number(int64(x))
			}
			b.WriteByte(';')
		}
	}
	for _, m := range a.bag {
		for _, x := range []int{int(m.Kind), m.From, m.To, m.Last, m.Prev, m.Match, m.Commit} {
			number(int64(x))
		}
		number(m.Term)
		number(m.LastTerm)
		number(m.PrevTerm)
		if m.OK {
			b.WriteByte('+')
		}
		commands(m.Commands)
	}
	commands(l.w.longest)
	for _, term := range slices.Sorted(maps.Keys(l.w.leader)) {
		number(term)
		number(int64(l.w.leader[term]))
	}
	return b.String()
}

// choices are all that may be chosen of a life, each message once.
func (l life) choices() []api.Pick {
	var c []api.Pick
	for a := range l.q.Nodes() {
		c = append(c, seek(a), take(a, int64(len(l.q.nodes[a].log))), crash(a))
		for b := range l.q.Nodes() {
			c = append(c, sendTo(a, b))
		}
	}
	for i := range max(1, len(l.q.Bag())) {
		c = append(c, come(i), twice(i), lose(i))
	}
	return c
}

func TestP6_4_AllShortLives(t *testing.T) {
	for _, x := range []struct{ nodes, depth int }{{1, 7}, {3, 5}, {5, 3}} {
		seen := map[string]int{}
		lives := []life{newLife(t, x.nodes)}
		for range x.depth {
			var next []life
			for _, l := range lives {
				for _, c := range l.choices() {
					n := l.copied()
					if n.step(t, c) != api.OK {
						continue
					}
					if k := n.key(); seen[k] == 0 {
						seen[k] = 1
						next = append(next, n)
					}
				}
			}
			lives = next
		}
		t.Logf("%d nodes: %d lives", x.nodes, len(seen))
	}
}

// drawer is a source of numbers that is the same at each run.
type drawer uint64

func (d *drawer) below(n int) int {
	*d = *d*6364136223846793005 + 1442695040888963407
	return int(*d>>33) % n
}

// habit is how often each kind of choice is made, by the kinds.
type habit [8]int

// draw is a choice by habit, now and then a wrong one.
func (h habit) draw(d *drawer, nodes int) api.Pick {
	sum := 0
	for _, n := range h {
		sum += n
	}
	at, kind := d.below(sum), 0
	for at >= h[kind] {
		at -= h[kind]
		kind++
	}
	c := api.Pick{Kind: api.PickKind(kind), A: d.below(nodes), B: int64(d.below(nodes))}
	if kind == int(api.PickTake) {
		c.B = int64(d.below(1000)) - 500
	}
	if kind >= int(api.PickCome) {
		c.A = d.below(600) - 300
	}
	if d.below(200) == 0 {
		c.A = append(extremes(), -1, nodes)[d.below(10)]
	}
	if d.below(200) == 0 {
		c.B = int64(append(extremes(), -1, nodes)[d.below(10)])
	}
	return c
}

// habits are those of long lives: nobody, seek, take, send, crash, come, twice, lose.
func habits() []habit {
	return []habit{
		{0, 1, 8, 20, 0, 30, 2, 1},
		{1, 2, 10, 30, 2, 40, 5, 5},
		{1, 6, 10, 20, 6, 40, 10, 6},
		{0, 1, 30, 40, 1, 60, 0, 0},
		{1, 40, 5, 5, 3, 30, 5, 2},
		{0, 1, 10, 60, 0, 10, 10, 1},
		{0, 1, 60, 30, 0, 60, 5, 5},
		{0, 3, 10, 30, 12, 60, 10, 10},
		{0, 4, 12, 12, 2, 30, 4, 20},
		{0, 8, 30, 20, 4, 50, 2, 8},
	}
}

// parted is how many nodes have a log that does not begin as it was.
func parted(was, now []api.Node) int {
	n := 0
	for i := range was {
		if !begins(was[i].Log, now[i].Log) {
			n++
		}
	}
	return n
}

func TestP6_4_LongLives(t *testing.T) {
	d := drawer(6)
	var terms, logs, crowds, cuts, longest int
	for _, nodes := range []int{1, 3, 5} {
		for _, h := range habits() {
			for range 4 {
				l := newLife(t, nodes)
				was := told(l.q)
				for range 1500 {
					l.step(t, h.draw(&d, nodes))
					now := told(l.q)
					cuts += parted(was.nodes, now.nodes)
					logs, crowds = max(logs, len(now.nodes[0].Log)), max(crowds, len(now.bag))
					was = now
				}
				terms, longest = max(terms, len(l.w.leader)), max(longest, len(l.w.longest))
			}
		}
	}
	t.Logf("%d Terms led, logs of %d, %d on their way, logs cut %d times, %d committed", terms, logs, crowds, cuts, longest)
	if terms < 10 || logs < api.MaxCommands || crowds < api.MaxCrowd || cuts < 50 || longest < api.MaxCommands {
		t.Error("long lives saw too little")
	}
}

// TestP6_4_ACommandOfAnElderTermMayBeLost lives the life in which a majority has a command of an elder Term that another one's leader lets go: nothing of it may have been told as committed.
func TestP6_4_ACommandOfAnElderTermMayBeLost(t *testing.T) {
	l := newLife(t, 5)
	do := func(picks ...api.Pick) {
		t.Helper()
		for _, p := range picks {
			if err := l.step(t, p); err != api.OK {
				t.Fatalf("%v: %v", p, err)
			}
		}
	}
	ballot := func(kind api.BallotKind, from, to int) int {
		return slices.IndexFunc(l.q.Bag(), func(m api.Ballot) bool { return m.Kind == kind && m.From == from && m.To == to })
	}
	forget := func() {
		t.Helper()
		for len(l.q.Bag()) > 0 {
			do(lose(0))
		}
	}
	lead := func(at int, voters ...int) {
		t.Helper()
		forget()
		do(seek(at))
		for _, v := range voters {
			do(come(ballot(api.BallotAsk, at, v)), come(-1))
		}
		forget()
		if n, _ := l.q.Node(at); n.Role != api.RoleLeads {
			t.Fatal(n)
		}
	}
	lead(0, 1, 2)
	do(take(0, 1), sendTo(0, 1), come(-1), come(-1))
	do(crash(0), seek(4))
	lead(4, 2, 3)
	do(take(4, 2), crash(4))
	do(seek(0))
	lead(0, 1, 2)
	do(sendTo(0, 2), come(-1), come(-1), sendTo(0, 2), come(-1), come(-1))
	if n, _ := l.q.Node(0); n.Match[0] != 1 || n.Match[2] != 1 || n.Commit != 0 {
		t.Fatal(n)
	}
	do(sendTo(0, 1), come(-1), come(-1))
	if n, _ := l.q.Node(0); !slices.Equal(n.Match, []int{1, 1, 1, 0, 0}) || n.Commit != 0 {
		t.Fatal(n)
	}
	do(crash(0), seek(4))
	lead(4, 1, 2, 3)
	do(sendTo(4, 1), come(-1), come(-1), sendTo(4, 1), come(-1), come(-1))
	if n, _ := l.q.Node(1); len(n.Log) != 1 || n.Log[0].Value != 2 {
		t.Fatal(n)
	}
}

// TestP6_4_WhatWatchesSees holds the watch itself against faults.
func TestP6_4_WhatWatchesSees(t *testing.T) {
	one, two := []api.Command{cmd(1, 1)}, []api.Command{cmd(1, 1), cmd(1, 2)}
	leader := func(term int64, log []api.Command) api.Node {
		return api.Node{Role: api.RoleLeads, Term: term, Log: log}
	}
	for i, row := range [][]all{
		{{nodes: []api.Node{leader(1, nil), leader(1, nil)}}},
		{{nodes: []api.Node{leader(1, nil), {}}}, {nodes: []api.Node{{}, leader(1, nil)}}},
		{{committed: two}, {committed: []api.Command{cmd(1, 2)}}},
		{{nodes: []api.Node{{Commit: 1, Log: two}, {Commit: 1, Log: two[1:]}}}},
		{{nodes: []api.Node{{Commit: 2, Log: one}}}},
		{{committed: two}, {nodes: []api.Node{leader(2, one)}}},
		{{nodes: []api.Node{{}, leader(2, one)}, committed: two}},
	} {
		w := &watch{leader: map[int64]int{}}
		why := ""
		for _, a := range row {
			why = w.see(a)
		}
		if why == "" {
			t.Errorf("row %d: no fault is seen", i)
		}
	}
	w := &watch{leader: map[int64]int{}}
	for _, a := range []all{
		{committed: two},
		{nodes: []api.Node{leader(3, two), leader(2, nil)}, committed: one},
	} {
		if why := w.see(a); why != "" {
			t.Error(why)
		}
	}
}
