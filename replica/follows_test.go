package replica

import (
	"math"
	"testing"

	"waystation/api"
)

// TestP11_5_HighNeverGetsLess: whatever comes, but a Cut and a crash.
func TestP11_5_HighNeverGetsLess(t *testing.T) {
	r := leader(t, log(1, 1, 1), 0, 1)
	run(t, r, flush(), serve(fetch(1, 5, 3, 1, 2), 0))
	for _, d := range []deed{
		serve(fetch(1, 5, 0, 0, 0), 0), serve(fetch(1, 5, 1, 1, 1), 0), serve(fetch(2, 5, 3, 2, 0), 0), serve(fetch(2, 5, 3, 1, 3), 0), propose(0, 1, 2), propose(0),
		learn(view(0, 5, 6, 0, 3)), learn(view(3, 5, 7, 3)), learn(view(-1, 5, 8, 0, 1, 2, 3)), add(nobodys(0)), flush(),
		learn(view(0, 6, 0, 0, 1)), flush(), serve(fetch(1, 6, 0, 0, 0), 0), learn(view(-1, 7, 0, 1)), flush(), learn(view(1, 8, 0, 1)), flush(),
		take(reply(8, 4, 5, 0)), take(reply(8, 4, 5, 1, log(8)...)), take(reply(8, 5, 8, 2)),
	} {
		run(t, r, d)
		if s := r.Standing(); s.High != 2 {
			t.Errorf("%s: High %d", d.text, s.High)
		}
	}
	run(t, r, take(cutting(8, 5, 8, 5, 2)))
	wantMarks(t, r, 2, 2)
	run(t, r, take(cutting(8, 2, 1, 1, 1)))
	wantMarks(t, r, 1, 1)
	run(t, r, take(reply(8, 1, 1, 2, log(8)...)))
	wantMarks(t, r, 1, 2)
	run(t, r, crash(0))
	wantMarks(t, r, 1, 1)
}

// TestP11_5_HighIsAtMostTheLogsEnd, whatever is said.
func TestP11_5_HighIsAtMostTheLogsEnd(t *testing.T) {
	r := follower(t, log(1, 1)...)
	run(t, r, take(reply(1, 2, 1, math.MaxInt)))
	wantMarks(t, r, 0, 2)
	run(t, r, learn(view(0, 2, 0, 0, 1)))
	refuses(t, r, api.ErrArg, serve(fetch(1, 2, 2, 1, 3), 0))
	// It has less than that one: what that one has more is none of its own.
	run(t, r, serve(fetch(1, 2, 3, 1, 3), 0), flush())
	wantMarks(t, r, 2, 2)
	run(t, r, serve(fetch(1, 2, 2, 1, 2), 0), learn(view(1, 2, 1, 1)))
	wantMarks(t, r, 2, 2)
}

// TestP11_1_To_P11_4_WhatGoesWrongStaysInside: what gives up with something else than an error is refused too.
func TestP11_1_To_P11_4_WhatGoesWrongStaysInside(t *testing.T) {
	r := replicaOf(t, 0, 1)
	var none []int
	for _, call := range []func(){func() { panic("something") }, func() { none[r.self] = 1 }, func() { panic(nil) }} {
		if err := r.attempt(call); err != api.ErrArg {
			t.Error(err)
		}
	}
	if err := r.attempt(func() { panic(api.ErrBehind) }); err != api.ErrBehind {
		t.Error(err)
	}
	if err := r.attempt(func() {}); err != api.OK {
		t.Error(err)
	}
}
