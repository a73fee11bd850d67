package replica

import (
	"math"
	"testing"

	"waystation/api"
)

func TestP11_3_Propose(t *testing.T) {
	r := leader(t, log(1, 1, 1), 0, 1)
	// The list that is there, and less.
	answers(t, r, api.Alter{Leader: 0, Epoch: 5, Version: 5, ISR: []int{0, 1}}, propose(0, 1))
	answers(t, r, api.Alter{Leader: 0, Epoch: 5, Version: 5, ISR: []int{0}}, propose(0))
	stands(t, r, api.Standing{Role: api.RoleLead, Epoch: 5, Version: 5, Begin: 3, ISR: []int{0, 1}, Counts: []int{0, 1}, Known: []int{-1, -1, -1, -1}})
	// Somebody new counts at once, and is in step no sooner than a view says so.
	run(t, r, serve(fetch(3, 5, 3, 1, 3), 0))
	answers(t, r, api.Alter{Leader: 0, Epoch: 5, Version: 5, ISR: []int{0, 3}}, propose(0, 3))
	stands(t, r, api.Standing{Role: api.RoleLead, Epoch: 5, Version: 5, Begin: 3, ISR: []int{0, 1}, Counts: []int{0, 1, 3}, Known: []int{-1, -1, -1, 3}})
	run(t, r, serve(fetch(2, 5, 3, 1, 3), 0))
	answers(t, r, api.Alter{Leader: 0, Epoch: 5, Version: 5, ISR: []int{0, 1, 2}}, propose(0, 1, 2))
	stands(t, r, api.Standing{Role: api.RoleLead, Epoch: 5, Version: 5, Begin: 3, ISR: []int{0, 1}, Counts: []int{0, 1, 2, 3}, Known: []int{-1, -1, 3, 3}})
	// Who counts holds up what is committed.
	run(t, r, flush(), add(nobodys(1)), flush(), serve(fetch(1, 5, 4, 5, 4), 0))
	wantMarks(t, r, 4, 3)
	run(t, r, learn(view(0, 5, 6, 0, 1)))
	wantMarks(t, r, 4, 4)
	answers(t, r, api.Alter{Leader: 0, Epoch: 5, Version: 6, ISR: []int{0, 1}}, propose(0, 1))
}

// TestP11_3_ProposeOneThatIsNear: behind neither High nor Begin.
func TestP11_3_ProposeOneThatIsNear(t *testing.T) {
	// Begin is 3, High 0.
	r := leader(t, log(1, 1, 1), 0, 1)
	refuses(t, r, api.ErrBehind, propose(0, 2), propose(0, 1, 2), propose(0, 3))
	run(t, r, serve(fetch(2, 5, 3, 1, 2), 0))
	refuses(t, r, api.ErrBehind, propose(0, 2), propose(0, 1, 2))
	run(t, r, serve(fetch(2, 5, 3, 1, 3), 0))
	answers(t, r, api.Alter{Leader: 0, Epoch: 5, Version: 5, ISR: []int{0, 2}}, propose(0, 2))
	// Begin is 3, High 5.
	r = leader(t, log(1, 1, 1), 0)
	run(t, r, add(nobodys(0)), add(nobodys(0)), flush(), add(nobodys(0)), serve(fetch(2, 5, 5, 5, 4), 0))
	wantMarks(t, r, 5, 5)
	refuses(t, r, api.ErrBehind, propose(0, 2))
	run(t, r, serve(fetch(2, 5, 5, 5, 5), 0))
	answers(t, r, api.Alter{Leader: 0, Epoch: 5, Version: 5, ISR: []int{0, 2}}, propose(0, 2))
	// Begin and High are 0: nothing known is less than that.
	r = leader(t, nil, 0, 1)
	refuses(t, r, api.ErrBehind, propose(0, 2), propose(0, 1, 2, 3))
	run(t, r, serve(fetch(2, 5, 0, 0, 0), 0))
	refuses(t, r, api.ErrBehind, propose(0, 1, 2, 3), propose(0, 3))
	answers(t, r, api.Alter{Leader: 0, Epoch: 5, Version: 5, ISR: []int{0, 1, 2}}, propose(0, 1, 2))
	// Who counts already, and is not in step, must be near again.
	r = leader(t, nil, 0)
	run(t, r, serve(fetch(2, 5, 0, 0, 0), 0), propose(0, 2))
	run(t, r, learn(view(0, 5, 6, 0)), add(nobodys(0)), flush())
	wantMarks(t, r, 1, 1)
	refuses(t, r, api.ErrBehind, propose(0, 2))
	// Who is in step need not be.
	r = leader(t, log(1, 1, 1), 0, 1, 2, 3)
	answers(t, r, api.Alter{Leader: 0, Epoch: 5, Version: 5, ISR: []int{0, 1, 3}}, propose(0, 1, 3))
}

// TestP11_3_ProposeItselfOutOfStep: nothing is known of itself, so it is not near.
func TestP11_3_ProposeItselfOutOfStep(t *testing.T) {
	r := leader(t, nil, 0, 1)
	run(t, r, learn(view(1, 5, 6, 1)))
	refuses(t, r, api.ErrBehind, propose(0), propose(0, 1))
}

func TestP11_3_ProposeOfWhatDoesNotLead(t *testing.T) {
	for name, r := range inEachRole(t) {
		if name != "leads" {
			refuses(t, r, api.ErrLead, propose(2), propose(0, 2), propose(0, 1, 2, 3))
		}
	}
}

func TestP11_3_ProposeWhatMayNotBe(t *testing.T) {
	for _, r := range inEachRole(t) {
		refuses(t, r, api.ErrArg, propose(), propose(0), propose(0, 1, 3), propose(2, 0), propose(3, 2), propose(2, 2), propose(0, 0, 2), propose(1, 2, 2), propose(2, 3, 3))
		for _, none := range outside(4) {
			refuses(t, r, api.ErrArg, propose(none), propose(none, 2), propose(2, none), propose(0, none, 2), propose(0, 2, 3, none))
		}
	}
}

func TestP11_3_Crash(t *testing.T) {
	for _, x := range []struct{ flushed, keep, left int }{
		{0, 0, 0}, {0, 1, 1}, {0, 4, 4}, {0, 5, 5}, {0, 6, 5}, {2, 0, 2}, {2, 1, 3}, {2, 2, 4}, {2, 3, 5}, {2, 4, 5}, {5, 0, 5}, {5, 1, 5}, {2, math.MaxInt, 5}, {5, math.MaxInt, 5}, {0, math.MaxInt, 5},
	} {
		l := log(1, 1, 2, 4, 4)
		for high := range 6 {
			r := replicaOf(t, 0, 1)
			run(t, r, learn(view(1, 5, 1, 1)), take(reply(5, 0, 0, 0, l[:x.flushed]...)), flush())
			f, _ := r.Ask()
			run(t, r, take(reply(5, f.Offset, f.Last, high, l[x.flushed:]...)), crash(x.keep))
			wantLog(t, r, l[:x.left])
			stands(t, r, api.Standing{Role: api.RoleNone, Epoch: 5, Flushed: x.left, High: min(high, x.left)})
			refuses(t, r, api.ErrLead, ask(), take(reply(5, x.left, 0, 0)))
		}
	}
}

func TestP11_3_CrashInEachRole(t *testing.T) {
	for name, r := range inEachRole(t) {
		was := r.Standing()
		run(t, r, crash(1))
		stands(t, r, api.Standing{Role: api.RoleNone, Epoch: 5, Flushed: 1, High: was.High})
		if len(r.Log()) != 1 {
			t.Error(name, told(r))
		}
		// Whoever leads in its epoch, it is not this one.
		refuses(t, r, api.ErrOld, learn(view(2, 5, 9, 2)), learn(view(-1, 5, 9, 2)), learn(view(1, 4, 9, 1)))
		refuses(t, r, api.ErrLead, add(nobodys(0)), ask(), serve(fetch(1, 5, 0, 0, 0), 1), propose(2), has(-1, 0, 0))
		c := r.Copy()
		run(t, c, learn(view(1, 5, 0, 1)))
		stands(t, c, api.Standing{Role: api.RoleFollow, Epoch: 5, Flushed: 1, High: was.High})
		run(t, r, learn(view(2, 6, 0, 2)))
		stands(t, r, api.Standing{Role: api.RoleLead, Epoch: 6, Flushed: 1, High: 1, Begin: 1, ISR: []int{2}, Counts: []int{2}, Known: []int{-1, -1, -1, -1}})
	}
	// Of nothing, and twice.
	r := replicaOf(t, 0, 1)
	run(t, r, crash(0), crash(7))
	stands(t, r, api.Standing{Role: api.RoleNone})
}

// TestP11_3_CrashLosesWhatWasCommitted: of one that leads and is not in step itself.
func TestP11_3_CrashLosesWhatWasCommitted(t *testing.T) {
	r := leader(t, log(1, 1, 1), 0, 1)
	run(t, r, learn(view(1, 5, 6, 1)), serve(fetch(1, 5, 3, 1, 3), 0))
	wantMarks(t, r, 0, 3)
	run(t, r, crash(1))
	stands(t, r, api.Standing{Role: api.RoleNone, Epoch: 5, Flushed: 1, High: 1})
	wantLog(t, r, log(1))
}

// TestP11_3_BehindACrash: what was lost is as if it never had been.
func TestP11_3_BehindACrash(t *testing.T) {
	r := leader(t, nil, 0)
	run(t, r, add(data(0, 1, 0)), flush(), add(data(0, 1, 1)), add(commits(0, 1)), add(data(1, 4, 0)), crash(1), learn(view(0, 6, 0, 0)))
	wantMarks(t, r, 2, 2)
	refuses(t, r, api.ErrDouble, add(data(0, 1, 1)))
	answers(t, r, 2, add(aborts(0, 1)))
	answers(t, r, 3, add(data(1, 3, 0)))
}

func TestP11_3_CrashThatMayNotBe(t *testing.T) {
	for _, r := range inEachRole(t) {
		refuses(t, r, api.ErrArg, crash(-1), crash(math.MinInt), crash(-1<<32))
	}
}
