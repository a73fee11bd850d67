package cluster

import (
	"fmt"
	"math"
	"testing"

	"waystation/api"
	"waystation/meta"
)

// busy is a cluster in which each choice that may be does something: broker 0 leads, the other ones follow, a transaction is open, a message on its way.
func busy(t *testing.T, f api.Form) *Cluster {
	t.Helper()
	c := led(t, f, 1)
	does(t, c, begin(0), add(0, 1, 0), step(tell(0, 0)))
	return c
}

// TestP12_1_NoKind: choices of no kind, and of kinds beyond.
func TestP12_1_NoKind(t *testing.T) {
	c := busy(t, formOf(4, 4, 4))
	for _, kind := range []api.ChoiceKind{0, -1, 16, 17, math.MaxInt, math.MinInt, 1 << 32, 1<<32 + 1, -1 << 32} {
		stepsRefused(t, c, api.ErrArg, api.Choice{Kind: kind}, api.Choice{Kind: kind, A: 1, B: 1, C: 1})
	}
}

// TestP12_1_OutsideTheForm: brokers, partitions, IDs, bits that are none, in forms of several sizes.
func TestP12_1_OutsideTheForm(t *testing.T) {
	for n := 1; n <= 4; n++ {
		brokers, parts, ids := 1+n%4, 1+(n+1)%4, 1+(n+2)%4
		c := busy(t, formOf(brokers, parts, ids))
		for _, part := range outside(parts) {
			stepsRefused(t, c, api.ErrArg, elect(part, 0), unclean(part, 0), tell(part, 0), fetch(part, 0, 0), flush(part, 0), propose(part, 0, 1), report(part, 0), write(part, 0, 1))
		}
		for _, broker := range outside(brokers) {
			stepsRefused(t, c, api.ErrArg, elect(0, broker), unclean(0, broker), tell(0, broker), fetch(0, broker, 0), fetch(0, brokers-1, broker), flush(0, broker),
				propose(0, broker, 1), report(0, broker), write(0, broker, 1), fence(broker), register(broker), crash(broker, 0))
		}
		for _, id := range outside(ids) {
			stepsRefused(t, c, api.ErrArg, mark(id), expire(id))
		}
		for bit := brokers; bit < 63; bit++ {
			stepsRefused(t, c, api.ErrArg, propose(0, 0, 1<<bit), propose(0, 0, 1|1<<bit))
		}
		stepsRefused(t, c, api.ErrArg, propose(0, 0, -1), propose(0, 0, math.MinInt), propose(0, 0, math.MinInt|1), propose(0, 0, math.MaxInt))
		stepsRefused(t, c, api.ErrArg, crash(0, -1), crash(0, math.MinInt), crash(brokers-1, -2))
	}
}

// TestP12_1_ErrorsInOrder: what there is not is told ahead of what is not there, and that ahead of what layers 10 and 11 say.
func TestP12_1_ErrorsInOrder(t *testing.T) {
	c := clusterOf(t, formOf(2, 1, 1), 3)
	// Nobody follows, nobody leads, nothing is open, the bag is empty.
	stepsRefused(t, c, api.ErrArg, fetch(0, 1, 2), fetch(0, 1, -1), propose(0, 0, 4), propose(0, 0, 5), propose(0, 0, 0), propose(0, 0, 2),
		write(0, 0, 1<<31), write(0, 0, -1<<31-1), write(0, 0, math.MaxInt), mark(1), expire(1), report(1, 0), report(0, 2))
	stepsRefused(t, c, api.ErrLead, fetch(0, 1, 1), propose(0, 0, 1), propose(0, 0, 3), write(0, 0, 1<<31-1), write(0, 0, -1<<31), report(0, 0))
	stepsRefused(t, c, api.ErrNone, mark(0), expire(0), deliver(0), double(0), drop(0))
	// Too few are in step where it leads.
	steps(t, c, elect(0, 0), tell(0, 0), deliver(0), fence(1))
	stepsRefused(t, c, api.ErrFew, write(0, 0, 1))
	stepsRefused(t, c, api.ErrArg, write(0, 0, 1<<31))
	// A broker that does not live is not in step either.
	stepsRefused(t, c, api.ErrDead, elect(0, 1), unclean(0, 1))
	stepsRefused(t, c, api.ErrArg, elect(1, 1), elect(0, 2))
}

// TestP12_1_UnnamedDoesNotCount: what a choice's words do not name is not looked at.
func TestP12_1_UnnamedDoesNotCount(t *testing.T) {
	c := busy(t, formOf(2, 2, 1))
	for _, x := range []api.Choice{
		{Kind: api.ChFence, A: 1, B: -1, C: math.MinInt}, {Kind: api.ChRegister, A: 1, B: 9, C: -1}, {Kind: api.ChTell, A: 0, B: 1, C: -7},
		{Kind: api.ChFlush, A: 1, B: 1, C: 99}, {Kind: api.ChCrash, A: 1, B: 1, C: -1}, {Kind: api.ChReport, A: 0, B: 0, C: -1},
		{Kind: api.ChDeliver, A: 0, B: -1, C: 5}, {Kind: api.ChDouble, A: 0, B: 77, C: -1}, {Kind: api.ChDrop, A: 0, B: -5, C: -1},
		{Kind: api.ChExpire, A: 0, B: -1, C: 1 << 40}, {Kind: api.ChMark, A: 0, B: 8, C: -3},
	} {
		plain := x
		plain.C = 0
		if x.Kind != api.ChTell && x.Kind != api.ChFlush && x.Kind != api.ChCrash && x.Kind != api.ChReport {
			plain.B = 0
		}
		a, b := c.Copy(), c.Copy()
		if got, want := a.Step(x), b.Step(plain); got != want || !Same(a, b) {
			t.Errorf("%s: %v, %s: %v", step(x).text, got, step(plain).text, want)
		}
		steps(t, c, tell(1, 1))
	}
}

// TestP12_1_Elect: C tells whether one may be elected that is not in step.
func TestP12_1_Elect(t *testing.T) {
	c := clusterOf(t, formOf(3, 2, 1), 1)
	steps(t, c, elect(1, 2))
	wantView(t, c, 1, view(2, 1, 1, 0, 1, 2))
	wantView(t, c, 0, view(-1, 0, 0, 0, 1, 2))
	steps(t, c, fence(1), register(1))
	wantView(t, c, 1, view(2, 1, 2, 0, 2))
	stepsRefused(t, c, api.ErrSync, elect(1, 1), elect(0, 1))
	for _, other := range []int{1, 2, -1, math.MaxInt, math.MinInt, 1 << 32} {
		d := c.Copy()
		steps(t, d, api.Choice{Kind: api.ChElect, A: 1, B: 1, C: other})
		wantView(t, d, 1, view(1, 2, 3, 1))
		wantView(t, d, 0, view(-1, 0, 1, 0, 2))
		// One that is in step is elected as ever.
		d = c.Copy()
		steps(t, d, api.Choice{Kind: api.ChElect, A: 1, B: 0, C: other})
		wantView(t, d, 1, view(0, 2, 3, 0, 2))
	}
	wantBag(t, c)
}

// TestP12_1_FenceAndRegister: a broker that does not live leads nowhere, till it is elected where it lives again.
func TestP12_1_FenceAndRegister(t *testing.T) {
	c := led(t, formOf(2, 2, 1), 1)
	steps(t, c, fence(0))
	wantView(t, c, 0, view(-1, 2, 2, 1))
	wantView(t, c, 1, view(-1, 2, 2, 1))
	stepsRefused(t, c, api.ErrDead, elect(0, 0))
	// Replicas hear of it by messages alone.
	steps(t, c, write(0, 0, 5), register(0))
	if lives, _ := c.Meta().Lives(0); !lives {
		t.Error("broker 0 does not live")
	}
	stepsRefused(t, c, api.ErrSync, elect(0, 0))
	steps(t, c, fence(0), fence(0), register(0), register(1), fence(1), unclean(0, 0))
	wantView(t, c, 0, view(0, 3, 3, 0))
}

// TestP12_1_Expire: an open transaction is aborted; one that is being ended, and none, is refused.
func TestP12_1_Expire(t *testing.T) {
	c := clusterOf(t, formOf(1, 2, 2), 1)
	stepsRefused(t, c, api.ErrNone, expire(0), expire(1))
	does(t, c, begin(1), add(1, 1, 1), add(1, 1, 0))
	stepsRefused(t, c, api.ErrNone, expire(0))
	steps(t, c, expire(1))
	wantWriting(t, c, 1, api.Writing{Session: 2, Num: 1, State: api.TxnAbort, Parts: []int{0, 1}})
	stepsRefused(t, c, api.ErrNone, expire(1))
	comes(t, c, api.OK, markedOf(0, 1, 1), markedOf(1, 1, 1))
	stepsRefused(t, c, api.ErrNone, expire(1))
	does(t, c, begin(1), add(1, 3, 1), end(1, 3, true, 4))
	stepsRefused(t, c, api.ErrNone, expire(1))
	wantWriting(t, c, 1, api.Writing{Session: 3, Num: 2, State: api.TxnCommit, Parts: []int{1}, Next: 4})
	wantWriting(t, c, 0, api.Writing{State: api.TxnNone})
	// Of an ID that never began a session, too, as session 0 may add.
	does(t, c, add(0, 0, 0), step(expire(0)))
	wantWriting(t, c, 0, api.Writing{Session: 1, Num: 1, State: api.TxnAbort, Parts: []int{0}})
	wantBag(t, c)
}

// TestP12_1_Tell: the controller's view as it is now is put, also to who is not in step, or does not live.
func TestP12_1_Tell(t *testing.T) {
	c := clusterOf(t, formOf(3, 2, 1), 1)
	steps(t, c, tell(1, 2))
	nobody := viewTo(2, 1, view(-1, 0, 0, 0, 1, 2))
	wantBag(t, c, nobody)
	steps(t, c, elect(0, 1), fence(2), tell(0, 2), tell(0, 1), tell(1, 0))
	first := viewTo(2, 0, view(1, 1, 2, 0, 1))
	second := viewTo(1, 0, view(1, 1, 2, 0, 1))
	third := viewTo(0, 1, view(-1, 0, 1, 0, 1))
	wantBag(t, c, nobody, first, second, third)
	// What is on its way stays as it was.
	steps(t, c, elect(0, 0))
	wantBag(t, c, nobody, first, second, third)
	wantView(t, c, 0, view(0, 2, 3, 0, 1))
	steps(t, c, deliver(1))
	if r, _ := c.Replica(0, 2); r.Standing().Role != api.RoleFollow || r.Standing().Epoch != 1 {
		t.Errorf("broker 2: %s", standing(r))
	}
	// Of epoch 0 there is nothing to be learned.
	stepsAnswered(t, c, api.ErrOld, deliver(0))
}

// TestP12_1_Mark: the marker of a transaction that is being ended, to the leader of each of its partitions that has one.
func TestP12_1_Mark(t *testing.T) {
	c := clusterOf(t, formOf(3, 4, 2), 1)
	steps(t, c, elect(0, 1), elect(2, 2), elect(3, 0), elect(1, 0))
	stepsRefused(t, c, api.ErrNone, mark(0), mark(1))
	does(t, c, add(1, 0, 3), add(1, 0, 0), add(1, 0, 2))
	stepsRefused(t, c, api.ErrNone, mark(0), mark(1))
	does(t, c, end(1, 0, true, 3))
	stepsRefused(t, c, api.ErrNone, mark(0))
	steps(t, c, mark(1))
	wantBag(t, c, markTo(1, 0, commits(1, 1)), markTo(2, 2, commits(1, 1)), markTo(0, 3, commits(1, 1)))
	steps(t, c, drop(0), drop(0), drop(0))
	// Where nobody leads nothing is put; where it is marked already neither.
	steps(t, c, fence(2))
	steps(t, c, mark(1))
	wantBag(t, c, markTo(1, 0, commits(1, 1)), markTo(0, 3, commits(1, 1)))
	steps(t, c, drop(0), drop(0))
	comes(t, c, api.OK, markedOf(3, 1, 1))
	steps(t, c, mark(1))
	wantBag(t, c, markTo(1, 0, commits(1, 1)))
	steps(t, c, drop(0), fence(1), mark(1))
	wantBag(t, c)
	comes(t, c, api.OK, markedOf(0, 1, 1), markedOf(2, 1, 1))
	stepsRefused(t, c, api.ErrNone, mark(1))
	// The next one is aborted.
	does(t, c, add(1, 0, 1), end(1, 0, false, 3), step(mark(1)))
	wantBag(t, c, markTo(0, 1, aborts(1, 2)))
	// One that expires, too.
	does(t, c, add(0, 0, 3), step(expire(0)), step(mark(0)))
	wantBag(t, c, markTo(0, 1, aborts(1, 2)), markTo(0, 3, aborts(0, 1)))
}

// TestP12_1_Run: each choice's error, as if they were chosen one by one.
func TestP12_1_Run(t *testing.T) {
	l := []api.Choice{elect(0, 0), elect(0, 5), deliver(0), tell(0, 0), deliver(-1), write(0, 0, 3), {}, fetch(0, 0, 0), expire(0)}
	a, b := clusterOf(t, formOf(2, 1, 1), 1), clusterOf(t, formOf(2, 1, 1), 1)
	var want []api.Errno
	for _, x := range l {
		want = append(want, b.Step(x))
	}
	got := a.Run(l...)
	if fmt.Sprint(got) != fmt.Sprint(want) || !Same(a, b) {
		t.Errorf("%v, want %v", got, want)
	}
	if fmt.Sprint(want) != fmt.Sprint([]api.Errno{api.OK, api.ErrArg, api.ErrNone, api.OK, api.OK, api.OK, api.ErrArg, api.ErrLead, api.ErrNone}) {
		t.Errorf("%v", want)
	}
	if l := a.Run(); len(l) != 0 {
		t.Errorf("of no choices %v", l)
	}
	if again := b.Run(l[:2]...); fmt.Sprint(got) != fmt.Sprint(want) || len(again) != 2 {
		t.Errorf("%v, want %v; again %v", got, want, again)
	}
}

// TestP12_2_Calls: what is asked of the controller is what it answers.
func TestP12_2_Calls(t *testing.T) {
	c := clusterOf(t, formOf(1, 2, 2), 1)
	m, _ := meta.New(formOf(1, 2, 2))
	answers(t, c, 1, begin(0))
	answers(t, c, 1, begin(1))
	answers(t, c, 2, begin(1))
	answers(t, c, 1, add(1, 2, 1))
	answers(t, c, 1, add(1, 2, 0))
	refuses(t, c, api.ErrStale, add(1, 1, 1), add(0, 0, 0), end(1, 1, true, 0), end(0, 2, true, 0))
	refuses(t, c, api.ErrArg, begin(-1), begin(2), add(-1, 0, 0), add(2, 0, 0), add(0, 1, -1), add(0, 1, 2), end(2, 0, true, 0), end(-1, 0, false, 0), end(0, 1, true, -1), end(0, 1, true, api.MaxNumber+1))
	does(t, c, end(1, 2, true, 7))
	refuses(t, c, api.ErrBusy, begin(1), add(1, 2, 0), end(1, 2, true, 7))
	does(t, c, end(0, 1, true, api.MaxNumber))
	m.Init(0)
	m.Init(1)
	m.Init(1)
	m.Add(1, 2, 1)
	m.Add(1, 2, 0)
	m.End(1, 2, true, 7)
	m.End(0, 1, true, api.MaxNumber)
	if !meta.Same(c.Meta(), m) {
		t.Errorf("%s", told(c))
	}
	// A session that begins where a transaction is open aborts it.
	does(t, c, add(0, 1, 1))
	if got := begin(0).do(c); got != (answer{"0", api.ErrBusy}) {
		t.Errorf("%v", got)
	}
	wantWriting(t, c, 0, api.Writing{Session: 2, Num: 1, State: api.TxnAbort, Parts: []int{1}, Offset: api.MaxNumber})
}
