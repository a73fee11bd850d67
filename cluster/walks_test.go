package cluster

import (
	"slices"
	"strings"
	"testing"

	"waystation/api"
)

// walk is a cluster, the plain way of it, and the calls that were made of both.
type walk struct {
	c     *Cluster
	p     *plain
	deeds []string
	// seen is how often each call was answered each error.
	seen map[string]int
}

func newWalk(t *testing.T, f api.Form, least int) *walk {
	t.Helper()
	return &walk{c: clusterOf(t, f, least), p: newPlain(f, least), seen: map[string]int{}}
}

// another goes on apart.
func (w *walk) another() *walk {
	return &walk{w.c.Copy(), w.p.another(), slices.Clone(w.deeds), w.seen}
}

// text is the last calls.
func (w *walk) text() string { return strings.Join(w.deeds[max(0, len(w.deeds)-20):], " ") }

// does makes a call of both, and holds their answers against each other.
func (w *walk) does(t *testing.T, d deed) (got answer) {
	t.Helper()
	w.deeds = append(w.deeds, d.text)
	got, want := d.do(w.c), d.do(w.p)
	name, _, _ := strings.Cut(d.text, "[")
	w.seen[name+" "+want.err.Error()]++
	if got != want {
		t.Fatalf("%s: %v, want %v", w.text(), got, want)
	}
	if got.err != api.OK && got.told != d.zero {
		t.Fatalf("%s was refused, and told %s", w.text(), got.told)
	}
	return got
}

// step makes a call of both, and holds all of them against each other.
func (w *walk) step(t *testing.T, d deed) {
	t.Helper()
	was, copied := told(w.c), w.c.Copy()
	got := w.does(t, d)
	now := told(w.c)
	if now != told(w.p) {
		t.Fatalf("%s: %s, want %s", w.text(), now, told(w.p))
	}
	if Same(w.c, copied) != (now == was) || Same(copied, w.c) != (now == was) {
		t.Fatalf("%s: Same of %s and %s: %v", w.text(), now, was, now != was)
	}
	if told(copied) != was {
		t.Fatalf("%s: the copy was %s, is %s", w.text(), was, told(copied))
	}
	// What is delivered is out of the bag, whatever it is answered; to begin a session may abort what is open.
	if got.err != api.OK && now != was && !strings.HasPrefix(d.text, "Deliver") && !strings.HasPrefix(d.text, "Init") {
		t.Fatalf("%s was refused, and changed %s to %s", w.text(), was, now)
	}
}

// wantSeen fails unless a call was answered each of these errors at least so often.
func (w *walk) wantSeen(t *testing.T, least int, name string, errs ...api.Errno) {
	t.Helper()
	for _, err := range errs {
		if got := w.seen[name+" "+err.Error()]; got < least {
			t.Errorf("%s was answered %v %d times", name, err, got)
		}
	}
}

// all makes all rows of so many calls.
func (w *walk) all(t *testing.T, deeds []deed, depth int) {
	if depth == 0 {
		return
	}
	for _, d := range deeds {
		next := w.another()
		next.step(t, d)
		next.all(t, deeds, depth-1)
	}
}

// near is mostly a number of n, seldom one beside.
func (p *dice) near(n int) int {
	if p.seldom(40) {
		return []int{-1, n, -2, 100}[p.pick(4)]
	}
	return p.pick(n)
}

// beside is mostly a number, seldom one less or more.
func (p *dice) beside(n int64) int64 { return n + []int64{0, 0, 0, 0, 0, 0, 1, -1}[p.pick(8)] }

// isr is a list of brokers that mostly rises.
func (p *dice) isr(n int) []int {
	var l []int
	for range 1 + p.pick(3) {
		l = append(l, p.near(n))
	}
	if !p.seldom(4) {
		slices.Sort(l)
		l = slices.Compact(l)
	}
	return l
}

// message is one that mostly might be, but that no choice would put.
func (p *dice) message(c *Cluster) api.Msg {
	f := c.Meta().Form()
	part := p.near(f.Parts)
	v, _ := c.Meta().View(part)
	id := p.near(f.IDs)
	w, _ := c.Meta().Writing(id)
	to := p.near(f.Brokers)
	if v.Leader >= 0 && p.seldom(2) {
		to = v.Leader
	}
	isr := p.isr(f.Brokers)
	e := api.Entry{ID: id, Num: p.beside(w.Num), Seq: int64(p.pick(3)), Kind: api.EntryKind(1 + p.pick(4)), Value: int64(p.near(9))}
	if p.seldom(4) {
		e = nobodys(int64(p.pick(9)))
	}
	switch p.pick(8) {
	case 0:
		return viewTo(to, part, view(p.near(f.Brokers), p.beside(v.Epoch), p.beside(v.Version), isr...))
	case 1:
		at := p.pick(5)
		return fetchTo(to, part, asks(p.near(f.Brokers), p.beside(v.Epoch), at, v.Epoch, p.near(at+1)))
	case 2:
		x := api.Reply{Epoch: p.beside(v.Epoch), Base: p.pick(5), Last: v.Epoch, Cut: p.seldom(3), CutEpoch: v.Epoch, CutEnd: p.pick(5), High: p.pick(5)}
		if !x.Cut {
			x.Entries = in(max(v.Epoch, 1), e)
		}
		return replyTo(to, part, x)
	case 3:
		return alterOf(part, v.Leader, p.beside(v.Epoch), p.beside(v.Version), isr...)
	case 4:
		return markedOf(part, id, p.beside(w.Num))
	case 5:
		return markTo(to, part, e)
	case 6:
		m := p.message(c)
		m.Kind = api.MsgKind(p.pick(9))
		if p.seldom(2) {
			m.To = -1
		}
		return m
	}
	return dataTo(to, part, e)
}

// manner is what is picked from: choices alone that elect none but those in step; data of clients too; or anything.
type manner int

const (
	chosenAlone manner = iota
	withData
	wild
)

// controls is a choice of the controller's.
func (p *dice) controls(f api.Form, part int, how manner) api.Choice {
	broker := p.near(f.Brokers)
	switch k := p.pick(8); {
	case k < 1:
		return fence(broker)
	case k < 4:
		return register(broker)
	case k < 5 && how == wild:
		return unclean(part, broker)
	}
	return elect(part, broker)
}

// writes is what is done about a transaction.
func (p *dice) writes(c *Cluster, id, part int, how manner) deed {
	w, _ := c.Meta().Writing(id)
	puts := 20
	if how == chosenAlone {
		puts = 12
	}
	switch k := p.pick(puts); {
	case k < 2:
		return begin(id)
	case k < 4 || w.State == api.TxnNone && k < 12:
		return add(id, p.beside(w.Session), part)
	case k < 6:
		return end(id, p.beside(w.Session), p.seldom(2), w.Offset+int64(p.pick(3)))
	case k < 7:
		return step(expire(id))
	case k < 12:
		return step(mark(id))
	}
	v, _ := c.Meta().View(part)
	return put(dataTo(max(v.Leader, 0), part, data(id, w.Num, int64(p.pick(4)))))
}

// any is a call, picked; few are such as are refused.
func (p *dice) any(c *Cluster, how manner) deed {
	f := c.Meta().Form()
	part, broker := p.near(f.Parts), p.near(f.Brokers)
	v, _ := c.Meta().View(part)
	leader := broker
	if v.Leader >= 0 && !p.seldom(8) {
		leader = v.Leader
	}
	in := len(c.Bag())
	if p.pick(12) < in || p.seldom(40) {
		return p.moves()
	}
	switch k := p.pick(200); {
	case k < 3 || v.Leader < 0 && k < 60:
		return step(p.controls(f, part, how))
	case k < 40:
		return step(tell(part, []int{leader, broker}[p.pick(2)]))
	case k < 85:
		return step(fetch(part, broker, leader))
	case k < 100:
		return step(flush(part, broker))
	case k < 101:
		return step(crash(broker, p.near(3)))
	case k < 110:
		return step(propose(part, leader, p.near(1<<f.Brokers)|1<<(leader&3)))
	case k < 112:
		return step(propose(part, leader, p.near(1<<f.Brokers)))
	case k < 125:
		return step(report(part, leader))
	case k < 135:
		return step(write(part, leader, p.pick(9)))
	case k < 180 || how != wild:
		return p.writes(c, p.near(f.IDs), part, how)
	}
	return put(p.message(c))
}

// moves is what is done with a message of the bag.
func (p *dice) moves() deed {
	at := p.pick(api.MaxBag) - api.MaxBag/2
	switch p.pick(20) {
	case 0, 1:
		return step(double(at))
	case 2:
		return step(drop(at))
	}
	return step(deliver(at))
}

// TestP12_1_To_P12_3_Walks: many long rows of picks, on clusters of many forms.
func TestP12_1_To_P12_3_Walks(t *testing.T) {
	t.Parallel()
	w := &walk{seen: map[string]int{}}
	for seed := range 120 {
		p := dice(seed)
		next := newWalk(t, formOf(1+seed%4, 1+seed/4%4, 1+p.pick(4)), 1+p.pick(1+p.pick(4)))
		next.seen = w.seen
		for range 400 {
			next.step(t, p.any(next.c, wild))
		}
	}
	for _, name := range []string{"Fence", "Register", "Tell", "Flush", "Mark", "Report", "Write", "Expire", "Crash", "Elect", "Fetch", "Propose", "Deliver", "Double", "Drop"} {
		w.wantSeen(t, 10, name, api.OK)
	}
	for _, name := range []string{"Fence", "Register", "Tell", "Flush", "Mark", "Report", "Write", "Expire", "Crash", "Elect", "Fetch", "Propose"} {
		w.wantSeen(t, 2, name, api.ErrArg)
	}
	w.wantSeen(t, 20, "Deliver", api.ErrArg, api.ErrNone, api.ErrStale, api.ErrLead, api.ErrOld, api.ErrDouble)
	w.wantSeen(t, 2, "Deliver", api.ErrFenced, api.ErrOpen, api.ErrOrder, api.ErrFew, api.ErrDead)
	w.wantSeen(t, 10, "Elect", api.ErrDead, api.ErrSync)
	w.wantSeen(t, 10, "Fetch", api.ErrLead)
	w.wantSeen(t, 10, "Propose", api.ErrLead, api.ErrBehind)
	w.wantSeen(t, 10, "Report", api.ErrLead)
	w.wantSeen(t, 10, "Mark", api.ErrNone)
	w.wantSeen(t, 10, "Expire", api.ErrNone)
	w.wantSeen(t, 2, "Double", api.ErrNone)
}

// TestP12_1_To_P12_3_Rows: all short rows of choices, behind several lives.
func TestP12_1_To_P12_3_Rows(t *testing.T) {
	t.Parallel()
	for at, l := range [][]api.Choice{
		{},
		{elect(0, 0), tell(0, 0), deliver(0), write(0, 0, 1)},
		{elect(0, 0), tell(0, 0), tell(0, 1), deliver(0), deliver(0), write(0, 0, 1), flush(0, 0), fetch(0, 1, 0), deliver(0)},
		{elect(0, 0), tell(0, 0), tell(0, 1), deliver(0), deliver(0), write(0, 0, 1), fetch(0, 1, 0), deliver(0), deliver(0), fence(0), elect(0, 1), tell(0, 1), tell(0, 0)},
	} {
		w := newWalk(t, formOf(2, 1, 1), 1)
		for _, x := range l {
			w.step(t, step(x))
		}
		w.all(t, shortChoices(), []int{2, 3, 3, 3}[at])
	}
}

// shortChoices is choices that matter to a cluster of two brokers, a partition, an ID.
func shortChoices() []deed {
	var l []deed
	for broker := range 2 {
		l = append(l, step(elect(0, broker)), step(fence(broker)), step(tell(0, broker)), step(fetch(0, broker, 1-broker)), step(flush(0, broker)),
			step(crash(broker, broker)), step(write(0, broker, broker)), step(report(0, broker)))
	}
	l = append(l, step(unclean(0, 0)), step(register(0)), step(deliver(0)), step(deliver(-1)), step(double(0)), step(drop(1)),
		step(propose(0, 0, 1)), step(propose(0, 0, 3)), step(propose(0, 1, 3)), step(mark(0)), step(expire(0)))
	return append(l, begin(0), add(0, 0, 0), end(0, 0, true, 1), put(dataTo(0, 0, data(0, 1, 0))))
}
