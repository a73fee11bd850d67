package replica

import (
	"fmt"
	"math"
	"testing"

	"waystation/api"
)

func TestP11_4_Visible(t *testing.T) {
	l := []api.Entry{
		in(1, nobodys(1)), in(1, data(0, 1, 0)), in(1, nobodys(2)), in(1, data(1, 1, 0)), in(2, commits(0, 1)), in(2, nobodys(3)), in(2, aborts(1, 1)), in(2, nobodys(4)), in(2, data(0, 2, 0)),
	}
	// How many of the first ones are visible, of each High: the entry of an open transaction hides what stands behind it.
	want := [][]int{{}, {0}, {0}, {0}, {0}, {0, 1, 2}, {0, 1, 2}, {0, 1, 2, 5}, {0, 1, 2, 5, 7}, {0, 1, 2, 5, 7}}
	for high, offsets := range want {
		r := follower(t)
		run(t, r, take(reply(1, 0, 0, high, l...)))
		wantMarks(t, r, 0, high)
		var seen []api.Entry
		for _, at := range offsets {
			seen = append(seen, l[at])
		}
		for range 2 {
			if got := r.Visible(); fmt.Sprint(got) != fmt.Sprint(seen) {
				t.Errorf("High %d: %v, want %v", high, got, seen)
			}
		}
		// In each role.
		run(t, r, learn(view(0, 5, 0, 0, 1)))
		if got := r.Visible(); fmt.Sprint(got) != fmt.Sprint(seen) {
			t.Errorf("High %d, of what leads: %v, want %v", high, got, seen)
		}
		run(t, r, crash(9))
		if got := r.Visible(); fmt.Sprint(got) != fmt.Sprint(seen) {
			t.Errorf("High %d, of what crashed: %v, want %v", high, got, seen)
		}
	}
}

// TestP11_4_VisibleOfALogThatIsNotGood: what a follower took may have data behind a marker.
func TestP11_4_VisibleOfALogThatIsNotGood(t *testing.T) {
	l := []api.Entry{in(1, data(0, 1, 0)), in(1, commits(0, 1)), in(1, data(0, 1, 0)), in(1, aborts(1, 1)), in(1, data(1, 1, 4))}
	r := follower(t)
	run(t, r, take(reply(1, 0, 0, 5, l...)))
	if got := r.Visible(); fmt.Sprint(got) != fmt.Sprint([]api.Entry{l[0], l[2]}) {
		t.Error(got)
	}
}

func TestP11_4_Has(t *testing.T) {
	r := leader(t, nil, 0)
	run(t, r, add(data(0, 1, 0)), add(data(0, 1, 1)), add(commits(0, 1)), add(data(1, 2, 0)), add(nobodys(7)), flush(), add(data(1, 2, 1)))
	wantMarks(t, r, 5, 5)
	for _, x := range []struct {
		id       int
		num, seq int64
		want     bool
	}{
		{0, 1, 0, true}, {0, 1, 1, true}, {1, 2, 0, true}, {-1, 0, 0, true},
		// Behind High; of another ID, Num, Seq; a marker alone.
		{1, 2, 1, false}, {1, 1, 0, false}, {0, 2, 0, false}, {0, 1, 2, false}, {2, 1, 0, false}, {0, 0, 0, false}, {-1, 1, 0, false}, {-1, 0, 1, false},
		{-2, 0, 0, false}, {4, 1, 0, false}, {math.MaxInt, math.MaxInt64, math.MaxInt64, false}, {math.MinInt, math.MinInt64, math.MinInt64, false},
	} {
		answers(t, r, x.want, has(x.id, x.num, x.seq))
	}
	run(t, r, add(commits(2, 3)), add(aborts(3, 3)), flush())
	answers(t, r, true, has(1, 2, 1))
	answers(t, r, false, has(2, 3, 0))
	answers(t, r, false, has(3, 3, 0))
	// Of what does not lead, whatever it has.
	run(t, r, learn(view(1, 6, 0, 1)))
	refuses(t, r, api.ErrLead, has(0, 1, 0), has(-2, -1, -1))
	run(t, r, crash(0))
	refuses(t, r, api.ErrLead, has(0, 1, 0))
	refuses(t, replicaOf(t, 0, 1), api.ErrLead, has(0, 1, 0))
}

func TestP11_1_To_P11_4_NoReplica(t *testing.T) {
	for _, r := range nones() {
		for _, n := range append(outside(4), 0, 1) {
			for _, d := range []deed{
				learn(view(n, int64(n), int64(n), n)), learn(view(0, 1, 0, 0)), add(api.Entry{ID: n}), add(nobodys(0)), flush(), ask(),
				serve(fetch(n, int64(n), n, int64(n), n), n), serve(fetch(1, 0, 0, 0, 0), 0), take(reply(int64(n), n, int64(n), n, api.Entry{ID: n})), take(api.Reply{}),
				propose(n), propose(0), crash(n), has(n, int64(n), int64(n)),
			} {
				if got := d.do(r); got != (answer{d.zero, api.ErrNil}) {
					t.Errorf("%s of none: %v", d.text, got)
				}
			}
		}
		stands(t, r, api.Standing{})
		if r.Log() != nil || r.Visible() != nil || r.Copy() != nil {
			t.Error(r.Log(), r.Visible(), r.Copy())
		}
	}
}

// spoil changes each thing of a list, and what room there is behind it.
func spoil(l []int) {
	for i := range l[:cap(l)] {
		l[:cap(l)][i] = 77
	}
}

func spoilEntries(l []api.Entry) {
	for i := range l[:cap(l)] {
		l[:cap(l)][i] = in(77, nobodys(77))
	}
}

// TestP11_4_P11_2_P11_3_WhatIsToldIsNewMemory: what is told and changed then changes nothing.
func TestP11_4_P11_2_P11_3_WhatIsToldIsNewMemory(t *testing.T) {
	r := leader(t, log(1, 1, 1), 0, 1)
	run(t, r, flush(), serve(fetch(1, 5, 2, 1, 2), 0), serve(fetch(2, 5, 3, 1, 3), 0))
	was := told(r)
	s, other := r.Standing(), r.Standing()
	spoil(s.ISR)
	if fmt.Sprint(s.Counts, s.Known) != fmt.Sprint(other.Counts, other.Known) {
		t.Error("ISR, and Counts or Known, are the same memory")
	}
	spoil(s.Counts)
	if fmt.Sprint(s.Known) != fmt.Sprint(other.Known) {
		t.Error("Counts and Known are the same memory")
	}
	spoil(s.Known)
	spoilEntries(r.Log())
	spoilEntries(r.Visible())
	p, err := r.Serve(fetch(2, 5, 0, 0, 0), 2)
	if len(p.Entries) != 2 || err != api.OK {
		t.Fatal(p, err)
	}
	spoilEntries(p.Entries)
	p, _ = r.Serve(fetch(2, 5, 3, 1, 0), 2)
	spoilEntries(p.Entries)
	if told(r) != was || fmt.Sprintf("%+v %+v %+v", other, r.Log(), r.Visible()) != was {
		t.Errorf("%s, then %s, %v", was, told(r), other)
	}
	a, err := r.Propose([]int{0, 1, 2})
	if err != api.OK {
		t.Fatal(err)
	}
	was = told(r)
	spoil(a.ISR)
	if told(r) != was {
		t.Errorf("%s, then %s", was, told(r))
	}
	// What was told stays as it was told.
	l, seen, then := r.Log(), r.Visible(), r.Standing()
	run(t, r, add(nobodys(9)), learn(view(0, 5, 6, 0, 3)), learn(view(1, 6, 0, 1)), take(cutting(6, 4, 5, 1, 1)), take(reply(6, 1, 1, 0, log(6)...)))
	if fmt.Sprintf("%+v %+v %+v", then, l, seen) != was {
		t.Errorf("%s, then %v %v %v", was, then, l, seen)
	}
}

// TestP11_1_P11_2_P11_3_WhatIsHandedInIsNotKept: nor is it changed, nor the room behind it.
func TestP11_1_P11_2_P11_3_WhatIsHandedInIsNotKept(t *testing.T) {
	room := func(l ...int) []int { return append(append(make([]int, 0, 8), l...), 55, 55)[:len(l)] }
	wantRoom := func(l []int, want ...int) {
		t.Helper()
		if fmt.Sprint(l[:len(want)+2]) != fmt.Sprint(append(want, 55, 55)) {
			t.Errorf("%v was changed: %v", want, l[:len(want)+2])
		}
	}
	r := replicaOf(t, 0, 1)
	l := append(make([]api.Entry, 0, 8), log(1, 1, 9, 9)...)[:2]
	run(t, r, learn(view(1, 1, 0, 1)), take(api.Reply{Epoch: 1, Entries: l}), take(reply(1, 2, 1, 0, in(1, nobodys(3)))))
	if fmt.Sprint(l[:4]) != fmt.Sprint(log(1, 1, 9, 9)) {
		t.Errorf("entries were changed: %v", l[:4])
	}
	was := told(r)
	spoilEntries(l)
	if told(r) != was {
		t.Errorf("%s, then %s", was, told(r))
	}
	for version, isr := range [][]int{room(0, 1), room(0, 1, 2), room(0)} {
		want := append([]int(nil), isr...)
		run(t, r, learn(api.View{Leader: 0, Epoch: 5, Version: int64(version), ISR: isr}))
		c := r.Copy()
		run(t, c, serve(fetch(3, 5, 3, 1, 3), 0), propose(0, 3))
		wantRoom(isr, want...)
		was, then := told(r), told(c)
		spoil(isr)
		if told(r) != was || told(c) != then {
			t.Errorf("%s, then %s; %s, then %s", was, told(r), then, told(c))
		}
	}
	run(t, r, serve(fetch(2, 5, 3, 1, 3), 0), serve(fetch(3, 5, 3, 1, 3), 0))
	isr := room(0, 3)
	a, err := r.Propose(isr)
	if err != api.OK {
		t.Fatal(err)
	}
	run(t, r, propose(0, 2))
	wantRoom(isr, 0, 3)
	was = told(r)
	spoil(isr)
	if told(r) != was || fmt.Sprint(a.ISR) != "[0 3]" {
		t.Errorf("%s, then %s; %v", was, told(r), a)
	}
}

func TestP11_4_ACopyGoesOnApart(t *testing.T) {
	for name, r := range inEachRole(t) {
		was := told(r)
		c := r.Copy()
		if c == nil || c == r || told(c) != was || !Same(r, c) || !Same(c, r) {
			t.Fatal(name, was, told(c))
		}
		// Each of these changes something of one of them.
		deeds := []deed{learn(view(2, 6, 0, 0, 2)), add(nobodys(9)), serve(fetch(0, 6, 0, 0, 0), 0), serve(fetch(3, 6, 1, r.Log()[0].Epoch, 1), 0), propose(2, 3), flush(), learn(view(2, 6, 1, 1, 2)), learn(view(0, 7, 0, 0)), take(reply(7, 2, 6, 2, log(7)...)), take(cutting(7, 3, 7, 4, 3)), crash(9)}
		if name == "leads" {
			deeds = append([]deed{add(nobodys(8)), serve(fetch(3, 5, 1, 5, 1), 0), propose(2, 3), flush(), crash(0), learn(view(0, 5, 0, 0)), take(cutting(5, 2, 5, 5, 1))}, deeds...)
		}
		for _, d := range deeds {
			d.do(c)
			if told(r) != was {
				t.Fatalf("%s, %s of a copy: %s, then %s", name, d.text, was, told(r))
			}
		}
		if Same(r, c) {
			t.Error(name, "still the same")
		}
		then := told(c)
		for _, d := range deeds {
			d.do(r)
			if told(c) != then {
				t.Fatalf("%s, %s of what was copied: the copy was %s, is %s", name, d.text, then, told(c))
			}
		}
		if !Same(r, c) || told(r) != then {
			t.Errorf("%s: by the same calls to %s and %s", name, told(r), then)
		}
	}
}

// TestP11_4_CopiesShareNoRoom: what comes into a log, a list of one stands in none of the other.
func TestP11_4_CopiesShareNoRoom(t *testing.T) {
	for n := range 9 {
		r := leader(t, many(1, n), 0)
		for _, from := range []int{1, 2, 3} {
			run(t, r, serve(fetch(from, 5, n, min(int64(n), 1), n), 0))
		}
		c := r.Copy()
		run(t, r, add(nobodys(100)), propose(0, 1))
		run(t, c, add(nobodys(200)), propose(0, 2))
		wantLog(t, r, append(many(1, n), in(5, nobodys(100))))
		wantLog(t, c, append(many(1, n), in(5, nobodys(200))))
		d := c.Copy()
		run(t, c, propose(0, 1))
		run(t, d, propose(0, 3))
		if got := fmt.Sprint(r.Standing().Counts, c.Standing().Counts, d.Standing().Counts); got != "[0 1] [0 1 2] [0 2 3]" {
			t.Error(got)
		}
	}
}

func TestP11_4_SameOfNone(t *testing.T) {
	r := replicaOf(t, 0, 1)
	for _, a := range nones() {
		for _, b := range nones() {
			if !Same(a, b) {
				t.Error(a, b)
			}
		}
		if Same(a, r) || Same(r, a) {
			t.Error(a)
		}
	}
}

func TestP11_4_SameOfTheSame(t *testing.T) {
	if r := replicaOf(t, 2, 3); !Same(r, r) || !Same(r, replicaOf(t, 2, 3)) {
		t.Error("new ones are not the same")
	}
	// By another way to the same: what it was ahead of a crash, or as it led, counts no more.
	one, other := replicaOf(t, 0, 1), replicaOf(t, 0, 1)
	run(t, one, learn(view(0, 5, 3, 0, 1)), add(nobodys(0)), serve(fetch(1, 5, 1, 5, 1), 0), crash(1))
	run(t, other, learn(view(2, 5, 0, 2)), take(reply(5, 0, 0, 0, log(5)...)), flush(), crash(0))
	if !Same(one, other) || !Same(other, one) || told(one) != told(other) {
		t.Error(told(one), told(other))
	}
	run(t, one, learn(view(0, 6, 3, 0, 1)), serve(fetch(1, 6, 1, 5, 1), 0), learn(view(1, 7, 0, 1)))
	run(t, other, learn(view(1, 7, 9, 0, 1, 2)), take(reply(7, 1, 5, 1)))
	if !Same(one, other) || told(one) != told(other) {
		t.Error(told(one), told(other))
	}
}

// TestP11_4_SameOfEachThingThatDiffers: pairs of rows of calls behind which one thing alone differs.
func TestP11_4_SameOfEachThingThatDiffers(t *testing.T) {
	leads := func(deeds ...deed) []deed {
		return append([]deed{learn(view(1, 1, 1, 1)), take(reply(1, 0, 0, 0, log(1, 1)...)), learn(view(0, 5, 5, 0, 1))}, deeds...)
	}
	follows := func(deeds ...deed) []deed {
		return append([]deed{learn(view(1, 1, 1, 1)), take(reply(1, 0, 0, 0, log(1, 1)...))}, deeds...)
	}
	for _, x := range []struct {
		what       string
		one, other []deed
	}{
		{"role, follows", nil, []deed{learn(view(1, 0, 0, 1))}},
		{"epoch", []deed{learn(view(-1, 1, 0, 1))}, []deed{learn(view(-1, 2, 0, 1))}},
		{"epoch of one that follows", follows(), follows(learn(view(1, 2, 0, 1)))},
		{"epoch of one that leads", leads(), []deed{learn(view(1, 1, 1, 1)), take(reply(1, 0, 0, 0, log(1, 1)...)), learn(view(0, 6, 5, 0, 1))}},
		{"flushed", follows(), follows(flush())},
		{"flushed of one that leads", leads(), leads(flush())},
		{"high", follows(), follows(take(reply(1, 2, 1, 1)))},
		{"log, longer", follows(), follows(take(reply(1, 2, 1, 0, log(1)...)))},
		{"log, a value", follows(take(reply(1, 2, 1, 0, in(1, nobodys(1))))), follows(take(reply(1, 2, 1, 0, in(1, nobodys(2)))))},
		{"log, an epoch", follows(take(reply(1, 2, 1, 0, in(1, nobodys(1))))), follows(take(reply(1, 2, 1, 0, in(2, nobodys(1)))))},
		{"version, counts", leads(), leads(learn(view(0, 5, 6, 0, 1)))},
		{"ISR, and who counts", leads(learn(view(0, 5, 6, 0, 2))), leads(learn(view(0, 5, 6, 0, 3)))},
		{"ISR alone", leads(serve(fetch(2, 5, 2, 1, 2), 0), learn(view(0, 5, 6, 0, 1)), propose(0, 2)), leads(serve(fetch(2, 5, 2, 1, 2), 0), learn(view(0, 5, 6, 0, 1, 2)))},
		{"who counts alone", leads(serve(fetch(2, 5, 2, 1, 2), 0)), leads(serve(fetch(2, 5, 2, 1, 2), 0), propose(0, 2))},
		{"known", leads(), leads(serve(fetch(1, 5, 0, 0, 0), 0))},
		{"known of another one", leads(serve(fetch(1, 5, 2, 1, 1), 0)), leads(serve(fetch(2, 5, 2, 1, 1), 0))},
		{"begin", leads(add(nobodys(1))), []deed{learn(view(1, 1, 1, 1)), take(reply(1, 0, 0, 0, append(log(1, 1), in(5, nobodys(1)))...)), learn(view(0, 5, 5, 0, 1))}},
	} {
		a, b := replicaOf(t, 0, 1), replicaOf(t, 0, 1)
		run(t, a, x.one...)
		run(t, b, x.other...)
		if Same(a, b) || Same(b, a) || told(a) == told(b) {
			t.Errorf("%s: %s and %s are the same", x.what, told(a), told(b))
		}
	}
	// Whose it is, and of how many in step it wants.
	var all []*Replica
	for self := range 4 {
		for least := 1; least <= 4; least++ {
			all = append(all, replicaOf(t, self, least))
		}
	}
	for i, a := range all {
		for j, b := range all {
			if Same(a, b) != (i == j) {
				t.Error(i, j)
			}
		}
	}
}

// TestP11_1_To_P11_4_Extremes: no call panics, whatever it is given.
func TestP11_1_To_P11_4_Extremes(t *testing.T) {
	numbers := []int{math.MinInt, -1 << 32, -1, 0, 1, 4, 5, math.MaxInt32, math.MaxInt32 + 1, 1 << 32, math.MaxInt}
	all := inEachRole(t)
	all["new"] = replicaOf(t, 3, 4)
	p := dice(7)
	n := func() int { return numbers[p.pick(len(numbers))] }
	list := func() []int {
		var l []int
		for range p.pick(5) {
			l = append(l, n())
		}
		return l
	}
	entry := func() api.Entry {
		return api.Entry{Epoch: int64(n()), ID: n(), Num: int64(n()), Seq: int64(n()), Kind: api.EntryKind(n()), Value: int64(n())}
	}
	for _, name := range []string{"leads", "follows", "crashed", "without", "new"} {
		r := all[name]
		for range 3000 {
			d := []deed{
				learn(view(n(), int64(n()), int64(n()), list()...)), add(entry()), serve(fetch(n(), int64(n()), n(), int64(n()), n()), n()),
				take(api.Reply{Epoch: int64(n()), Base: n(), Last: int64(n()), Cut: p.seldom(2), CutEpoch: int64(n()), CutEnd: n(), Entries: []api.Entry{entry()}[:p.pick(2)], High: n()}),
				propose(list()...), crash(n()), has(n(), int64(n()), int64(n())), ask(), flush(),
			}[p.pick(9)]
			c := r.Copy()
			got := d.do(c)
			if got.err != api.OK && (got.told != d.zero || !Same(r, c)) {
				t.Fatalf("%s: %s of %s: %v", name, d.text, told(r), got)
			}
			if why := follows(r.Standing(), c.Standing(), len(c.Log()), d.text); why != "" {
				t.Fatalf("%s: %s of %s: %s", name, d.text, told(r), why)
			}
		}
	}
}
