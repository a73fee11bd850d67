package cluster

import (
	"testing"

	"waystation/api"
	"waystation/meta"
	"waystation/replica"
)

// TestP12_1_New: of each form and least that may be there is one, as at first.
func TestP12_1_New(t *testing.T) {
	for brokers := 1; brokers <= api.MaxBrokers; brokers++ {
		for parts := 1; parts <= api.MaxParts; parts++ {
			for ids := 1; ids <= api.MaxIDs; ids++ {
				for least := 1; least <= api.MaxBrokers; least++ {
					wantNew(t, formOf(brokers, parts, ids), least)
				}
			}
		}
	}
}

// wantNew fails unless a new cluster is as at first.
func wantNew(t *testing.T, f api.Form, least int) {
	t.Helper()
	c := clusterOf(t, f, least)
	if m, _ := meta.New(f); !meta.Same(c.Meta(), m) || c.Meta().Form() != f {
		t.Errorf("%+v: the controller is not as at first", f)
	}
	for part := range f.Parts {
		for broker := range f.Brokers {
			want, _ := replica.New(broker, least)
			if r, err := c.Replica(part, broker); err != api.OK || !replica.Same(r, want) {
				t.Errorf("%+v, least %d: replica %d of %d: %v", f, least, broker, part, err)
			}
		}
		answers(t, c, []api.Entry(nil), committed(part))
		answers(t, c, []api.Entry(nil), seen(part))
	}
	wantBag(t, c)
	stepsRefused(t, c, api.ErrNone, deliver(0), double(0), drop(0))
}

// TestP12_1_NewRefused: forms and leasts that may not be.
func TestP12_1_NewRefused(t *testing.T) {
	refused := func(f api.Form, least int) {
		t.Helper()
		if c, err := New(f, least); c != nil || err != api.ErrArg {
			t.Errorf("New(%+v, %d): %v, %v", f, least, c, err)
		}
	}
	for _, n := range append(outside(5), 0) {
		refused(formOf(n, 1, 1), 1)
		refused(formOf(1, n, 1), 1)
		refused(formOf(1, 1, n), 1)
		refused(formOf(4, 4, 4), n)
		refused(formOf(n, n, n), n)
	}
}

// TestP12_1_Least: so many must be in step where somebody writes.
func TestP12_1_Least(t *testing.T) {
	for least := 1; least <= api.MaxBrokers; least++ {
		c := led(t, formOf(3, 1, 1), least)
		if least <= 3 {
			steps(t, c, write(0, 0, 1))
		} else {
			stepsRefused(t, c, api.ErrFew, write(0, 0, 1))
		}
		steps(t, c, fence(2), tell(0, 0), deliver(0))
		if least <= 2 {
			steps(t, c, write(0, 0, 2))
		} else {
			stepsRefused(t, c, api.ErrFew, write(0, 0, 2))
		}
	}
}

// TestP12_1_To_P12_3_Examples: both rows of the chapter.
func TestP12_1_To_P12_3_Examples(t *testing.T) {
	c := clusterOf(t, formOf(2, 1, 1), 1)
	well := func(l ...api.Choice) {
		t.Helper()
		errs := c.Run(l...)
		if len(errs) != len(l) {
			t.Fatalf("%v of %v", errs, l)
		}
		for at, err := range errs {
			if err != api.OK {
				t.Errorf("%s: %v", step(l[at]).text, err)
			}
		}
	}
	well(elect(0, 0), tell(0, 0), deliver(0), write(0, 0, 7), flush(0, 0))
	wantLog(t, c, 0, 0, 1, 0, in(1, nobodys(7))...)
	wantLog(t, c, 0, 1, 0, 0)
	answers(t, c, []api.Entry{}, committed(0))
	well(tell(0, 1), deliver(0), fetch(0, 1, 0), deliver(0), deliver(0), flush(0, 1), fetch(0, 1, 0), deliver(0))
	answers(t, c, in(1, nobodys(7)), committed(0))
	answers(t, c, in(1, nobodys(7)), seen(0))
	wantLog(t, c, 0, 0, 1, 1, in(1, nobodys(7))...)
	wantLog(t, c, 0, 1, 1, 0, in(1, nobodys(7))...)
	wantBag(t, c, replyTo(1, 0, api.Reply{Epoch: 1, Base: 1, Last: 1, High: 1}))
}

// TestP12_1_To_P12_3_None: calls of what is no cluster.
func TestP12_1_To_P12_3_None(t *testing.T) {
	for _, c := range nones() {
		for _, d := range []deed{
			step(elect(0, 0)), step(api.Choice{}), step(deliver(0)), step(crash(0, -1)), put(api.Msg{}), put(markedOf(0, 0, 1)),
			begin(0), begin(-1), add(0, 0, 0), end(0, 0, true, 0), copyAt(0, 0), copyAt(-1, 9), committed(0), committed(-1), seen(0), seen(4),
		} {
			if got := d.do(c); got != (answer{d.zero, api.ErrNil}) {
				t.Errorf("%s of none: %v", d.text, got)
			}
		}
		if l := c.Run(elect(0, 0), api.Choice{}); len(l) != 2 || l[0] != api.ErrNil || l[1] != api.ErrNil {
			t.Errorf("Run of none: %v", l)
		}
		if l := c.Run(); len(l) != 0 {
			t.Errorf("Run of none, of no choices: %v", l)
		}
		if c.Bag() != nil || c.Meta() != nil || c.Copy() != nil {
			t.Errorf("of none: %v, %v, %v", c.Bag(), c.Meta(), c.Copy())
		}
	}
}
