package meta

import (
	"testing"

	"waystation/api"
)

func TestP10_4_LivesViewWritingForm(t *testing.T) {
	m := controller(t, 2, 3, 4)
	if f := m.Form(); f != (api.Form{Brokers: 2, Parts: 3, IDs: 4}) {
		t.Error(f)
	}
	run(t, m, fence(0), elect(2, 1), begin(3), add(3, 1, 1))
	wantLives(t, m, false, true)
	wantView(t, m, 0, -1, 0, 1, 1)
	wantView(t, m, 2, 1, 1, 2, 1)
	wantWriting(t, m, 3, 1, 1, api.TxnOpen, 0, 0, 1)
	wantWriting(t, m, 0, 0, 0, api.TxnNone, 0, 0)
}

func TestP10_4_WhatIsNone(t *testing.T) {
	for n := 1; n <= 4; n++ {
		m := controller(t, n, n%4+1, (n+1)%4+1)
		f := m.Form()
		run(t, m, elect(0, 0), add(0, 0, 0))
		for _, none := range outside(f.Brokers) {
			if lives, err := m.Lives(none); lives || err != api.ErrArg {
				t.Errorf("Lives(%d): %v, %v", none, lives, err)
			}
		}
		for _, none := range outside(f.Parts) {
			if v, err := m.View(none); v.Leader != 0 || v.Epoch != 0 || v.Version != 0 || v.ISR != nil || err != api.ErrArg {
				t.Errorf("View(%d): %v, %v", none, v, err)
			}
		}
		for _, none := range outside(f.IDs) {
			if w, err := m.Writing(none); w.Session != 0 || w.Num != 0 || w.State != 0 || w.Parts != nil || w.Offset != 0 || w.Next != 0 || err != api.ErrArg {
				t.Errorf("Writing(%d): %v, %v", none, w, err)
			}
		}
	}
}

func TestP10_4_P10_1_P10_2_P10_3_NoController(t *testing.T) {
	for _, m := range nones() {
		for _, n := range append(outside(4), 0, 1) {
			for _, d := range []deed{
				fence(n), register(n), elect(n, 0), elect(0, n), unclean(0, n), alter(n, 0, 0, 0, 0), alter(0, n, 1, 1), alter(0, 0, int64(n), 0, n),
				begin(n), add(n, 0, 0), add(0, int64(n), n), commit(n, 0, 0), commit(0, 0, int64(n)), abort(0, int64(n), 0), marked(n, 0, 0), marked(0, int64(n), n),
			} {
				if got := d.do(m); got != (answer{0, api.ErrNil}) {
					t.Errorf("%s of none: %v", d.text, got)
				}
			}
			lives, err := m.Lives(n)
			if lives || err != api.ErrNil {
				t.Error(n, lives, err)
			}
			v, err := m.View(n)
			if v.Leader != 0 || v.Epoch != 0 || v.Version != 0 || v.ISR != nil || err != api.ErrNil {
				t.Error(n, v, err)
			}
			w, err := m.Writing(n)
			if w.Session != 0 || w.Num != 0 || w.State != 0 || w.Parts != nil || w.Offset != 0 || w.Next != 0 || err != api.ErrNil {
				t.Error(n, w, err)
			}
		}
		if f := m.Form(); f != (api.Form{}) {
			t.Error(f)
		}
		if c := m.Copy(); c != nil {
			t.Error(c)
		}
	}
}

// TestP10_4_WhatIsToldIsNewMemory: what is told and changed then changes nothing.
func TestP10_4_WhatIsToldIsNewMemory(t *testing.T) {
	m := controller(t, 4, 4, 1)
	run(t, m, elect(0, 0), fence(3), add(0, 0, 3), add(0, 0, 1), add(0, 0, 0), commit(0, 0, 9), marked(0, 1, 3))
	was := told(m)
	v, _ := m.View(0)
	other, _ := m.View(0)
	w, _ := m.Writing(0)
	another, _ := m.Writing(0)
	for i := range v.ISR {
		v.ISR[i] = 7
	}
	for i := range w.Parts {
		w.Parts[i] = 7
	}
	_ = append(v.ISR[:0], 8, 8, 8, 8, 8, 8)
	_ = append(w.Parts[:0], 8, 8, 8, 8, 8, 8)
	if now := told(m); now != was || len(other.ISR) != 3 || other.ISR[0] != 0 || len(another.Parts) != 2 || another.Parts[0] != 0 {
		t.Errorf("%s, then %s, %v, %v", was, now, other, another)
	}
	// What was told stays as it was told.
	run(t, m, fence(1), marked(0, 1, 0))
	if other.ISR[1] != 1 || another.Parts[0] != 0 || another.Parts[1] != 1 {
		t.Error(other, another)
	}
}

func TestP10_4_ACopyGoesOnApart(t *testing.T) {
	m := controller(t, 4, 2, 2)
	run(t, m, elect(0, 0), fence(3), begin(1), add(1, 1, 0), add(1, 1, 1))
	was := told(m)
	c := m.Copy()
	if c == nil || c == m || told(c) != was || !Same(m, c) || !Same(c, m) {
		t.Fatal(c, was)
	}
	// Each of these changes one thing more of one of them.
	for _, d := range []deed{fence(1), register(3), elect(1, 2), alter(0, 0, 1, 3, 0), abort(1, 1, 0), marked(1, 1, 0), marked(1, 1, 1), begin(1), add(0, 0, 1)} {
		run(t, c, d)
		if now := told(m); now != was || Same(m, c) {
			t.Errorf("%s of a copy: %s, then %s", d.text, was, now)
		}
	}
	then := told(c)
	for _, d := range []deed{fence(2), fence(0), register(2), unclean(0, 2), unclean(1, 2), alter(1, 2, 1, 4, 2), commit(1, 1, 4), marked(1, 1, 1), marked(1, 1, 0), begin(0)} {
		run(t, m, d)
		if now := told(c); now != then {
			t.Errorf("%s of what was copied: the copy was %s, is %s", d.text, then, now)
		}
	}
}

// TestP10_4_CopiesShareNoRoom: what comes into a list of one stands in no list of the other.
func TestP10_4_CopiesShareNoRoom(t *testing.T) {
	for _, begun := range [][]int{nil, {1}, {0, 3}, {3, 2, 1}, {0, 1, 2, 3}} {
		m := controller(t, 4, 4, 1)
		for _, part := range begun {
			run(t, m, add(0, 0, part))
		}
		c := m.Copy().Copy()
		for part := range 4 {
			run(t, m, add(0, 0, part))
			run(t, c, add(0, 0, 3-part))
		}
		wantWriting(t, m, 0, 0, 1, api.TxnOpen, 0, 0, 0, 1, 2, 3)
		wantWriting(t, c, 0, 0, 1, api.TxnOpen, 0, 0, 0, 1, 2, 3)
		run(t, m, abort(0, 0, 0), marked(0, 1, 0), marked(0, 1, 1))
		run(t, c, abort(0, 0, 0), marked(0, 1, 3))
		wantWriting(t, m, 0, 0, 1, api.TxnAbort, 0, 0, 2, 3)
		wantWriting(t, c, 0, 0, 1, api.TxnAbort, 0, 0, 0, 1, 2)
	}
}

func TestP10_4_SameOfNone(t *testing.T) {
	m := controller(t, 1, 1, 1)
	for _, a := range nones() {
		for _, b := range nones() {
			if !Same(a, b) {
				t.Error(a, b)
			}
		}
		if Same(a, m) || Same(m, a) {
			t.Error(a)
		}
	}
}

func TestP10_4_SameOfTheSame(t *testing.T) {
	m := controller(t, 3, 2, 2)
	if !Same(m, m) || !Same(m, controller(t, 3, 2, 2)) {
		t.Error("new ones are not the same")
	}
	// By another way to the same: nobody leads, and a list that got empty is as one that never was.
	one, other := controller(t, 3, 2, 2), controller(t, 3, 2, 2)
	run(t, one, fence(1), fence(2), register(1), add(0, 0, 0), add(0, 0, 1), commit(0, 0, 3), marked(0, 1, 0), marked(0, 1, 1))
	run(t, other, fence(2), fence(1), fence(1), register(1), add(0, 0, 1), abort(0, 0, 9), marked(0, 1, 1), commit(0, 0, 3))
	if !Same(one, other) || !Same(other, one) || told(one) != told(other) {
		t.Error(told(one), told(other))
	}
}

// TestP10_4_SameOfEachThingThatDiffers: pairs of rows of calls behind which one thing alone differs, or as few as may be.
func TestP10_4_SameOfEachThingThatDiffers(t *testing.T) {
	open := []deed{add(0, 0, 0), add(0, 0, 1)}
	for _, x := range []struct {
		what       string
		one, other []deed
	}{
		{"lives", []deed{fence(1), register(1)}, []deed{fence(1)}},
		{"leader", []deed{elect(0, 0)}, []deed{elect(0, 1)}},
		{"leader, nobody", []deed{elect(1, 0), alter(1, 0, 1, 1, 0), elect(1, 0)}, []deed{elect(1, 0), alter(1, 0, 1, 1, 0), fence(0), register(0)}},
		{"epoch", []deed{elect(1, 0), elect(1, 0)}, []deed{elect(1, 0), alter(1, 0, 1, 1, 0, 1, 2)}},
		{"version", []deed{elect(0, 2)}, []deed{elect(0, 2), alter(0, 2, 1, 1, 0, 1, 2)}},
		{"ISR", []deed{elect(0, 0), alter(0, 0, 1, 1, 0, 1)}, []deed{elect(0, 0), alter(0, 0, 1, 1, 0, 2)}},
		{"ISR, shorter", []deed{elect(0, 0), alter(0, 0, 1, 1, 0, 1)}, []deed{elect(0, 0), alter(0, 0, 1, 1, 0)}},
		{"session", nil, []deed{begin(1)}},
		{"num", nil, []deed{add(1, 0, 0), abort(1, 0, 0), marked(1, 1, 0)}},
		{"state", open, []deed{add(0, 0, 0), add(0, 0, 1), abort(0, 0, 0)}},
		{"state, commit at 0", []deed{add(0, 0, 0), commit(0, 0, 0)}, []deed{add(0, 0, 0), abort(0, 0, 0)}},
		{"parts", open, []deed{add(0, 0, 0)}},
		{"parts, as many", []deed{add(1, 0, 0)}, []deed{add(1, 0, 1)}},
		{"offset", nil, []deed{commit(1, 0, 1)}},
		{"next", []deed{add(0, 0, 0), commit(0, 0, 1)}, []deed{add(0, 0, 0), commit(0, 0, 2)}},
		{"which partition", []deed{elect(0, 0)}, []deed{elect(1, 0)}},
		{"which ID", []deed{begin(0)}, []deed{begin(1)}},
		{"which broker", []deed{fence(0), register(0)}, []deed{fence(1), register(1)}},
	} {
		a, b := controller(t, 3, 2, 2), controller(t, 3, 2, 2)
		run(t, a, x.one...)
		run(t, b, x.other...)
		if Same(a, b) || Same(b, a) || told(a) == told(b) {
			t.Errorf("%s: %s and %s are the same", x.what, told(a), told(b))
		}
	}
	// The form.
	forms := []*Meta{controller(t, 3, 2, 2), controller(t, 2, 2, 2), controller(t, 3, 3, 2), controller(t, 3, 2, 3), controller(t, 2, 3, 2), controller(t, 4, 4, 4), controller(t, 1, 1, 1)}
	for i, a := range forms {
		for j, b := range forms {
			if Same(a, b) != (i == j) {
				t.Error(a.Form(), b.Form())
			}
		}
	}
}

// TestP10_4_SameOfOneThingAlone: where calls can't change one thing alone, it is changed by hand.
func TestP10_4_SameOfOneThingAlone(t *testing.T) {
	for i, change := range []func(m *Meta){
		func(m *Meta) { m.brokers++ },
		func(m *Meta) { m.parts++ },
		func(m *Meta) { m.ids++ },
		func(m *Meta) { m.lives[2] = false },
		func(m *Meta) { m.views[1].Leader = 0 },
		func(m *Meta) { m.views[1].Epoch++ },
		func(m *Meta) { m.views[1].Version++ },
		func(m *Meta) { m.views[1].ISR = []int{1, 2} },
		func(m *Meta) { m.views[1].ISR = []int{0, 1} },
		func(m *Meta) { m.writers[1].Session++ },
		func(m *Meta) { m.writers[1].Num++ },
		func(m *Meta) { m.writers[1].State = api.TxnAbort },
		func(m *Meta) { m.writers[1].Parts = []int{1} },
		func(m *Meta) { m.writers[1].Parts = nil },
		func(m *Meta) { m.writers[1].Offset++ },
		func(m *Meta) { m.writers[1].Next++ },
	} {
		m := controller(t, 3, 2, 2)
		run(t, m, elect(1, 2), fence(1), add(1, 0, 0), commit(1, 0, 3))
		c := m.Copy()
		if !Same(m, c) {
			t.Fatal(i, "the copy is not the same")
		}
		change(c)
		if Same(m, c) || Same(c, m) {
			t.Error(i, told(m), told(c))
		}
	}
}
