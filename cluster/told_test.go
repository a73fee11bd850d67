package cluster

import (
	"fmt"
	"testing"

	"waystation/api"
	"waystation/meta"
	"waystation/replica"
)

// rich is a cluster that has something of everything: logs that are committed in part, a transaction that is being ended, messages of each kind.
func rich(t *testing.T) *Cluster {
	t.Helper()
	c := led(t, formOf(3, 2, 2), 1)
	does(t, c, begin(1), add(1, 1, 0), add(1, 1, 1))
	appends(t, c, 1, 0, data(1, 1, 0), nobodys(3))
	does(t, c, end(1, 1, true, 1), step(write(0, 0, 5)))
	for _, kind := range kinds {
		to := 2
		if toController(kind) {
			to = -1
		}
		does(t, c, put(full(kind, to, 1)))
	}
	return c
}

// TestP12_2_Bag: the messages in the order in which they were put; what was told is nobody else's.
func TestP12_2_Bag(t *testing.T) {
	c := rich(t)
	was := told(c)
	a, b := c.Bag(), c.Bag()
	if len(a) != len(kinds) {
		t.Fatalf("%d messages", len(a))
	}
	for at := range a {
		spoil(a[at])
		a[at].To, a[at].Entry.Value = 77, 77
	}
	a = append(a[:1], a[2:]...)
	if told(c) != was || fmt.Sprint(b) != fmt.Sprint(c.Bag()) || len(a) != len(b)-1 {
		t.Errorf("%s, then %s", was, told(c))
	}
	c = clusterOf(t, formOf(1, 1, 1), 1)
	if c.Bag() != nil {
		t.Errorf("at first %v", c.Bag())
	}
}

// TestP12_2_Meta: a copy, that goes on apart.
func TestP12_2_Meta(t *testing.T) {
	c := rich(t)
	was := told(c)
	m := c.Meta()
	if !meta.Same(m, c.Meta()) || m.Form() != formOf(3, 2, 2) {
		t.Errorf("%+v", m.Form())
	}
	m.Elect(0, 2, false)
	m.Fence(1)
	m.Marked(1, 1, 0)
	m.Init(0)
	if told(c) != was || meta.Same(m, c.Meta()) {
		t.Errorf("%s, then %s", was, told(c))
	}
	steps(t, c, fence(2))
	if lives, _ := m.Lives(2); !lives {
		t.Error("what was told has gone on with it")
	}
}

// TestP12_2_Replica: a copy, that goes on apart, of the partition's at the broker.
func TestP12_2_Replica(t *testing.T) {
	c := rich(t)
	was := told(c)
	for part := range 2 {
		for broker := range 3 {
			r, err := c.Replica(part, broker)
			if err != api.OK || r.Standing().Role != roleOf(c, part, broker) {
				t.Fatalf("%v", err)
			}
			r.Append(nobodys(1))
			r.Flush()
			r.Crash(0)
			r.Learn(view(broker, 99, 99, broker))
			if again, _ := c.Replica(part, broker); told(c) != was || replica.Same(again, r) {
				t.Errorf("%s, then %s", was, told(c))
			}
		}
	}
	for _, part := range outside(2) {
		refuses(t, c, api.ErrArg, copyAt(part, 0), copyAt(part, -1))
	}
	for _, broker := range outside(3) {
		refuses(t, c, api.ErrArg, copyAt(0, broker), copyAt(1, broker))
	}
	r, _ := c.Replica(0, 0)
	steps(t, c, write(0, 0, 1))
	if len(r.Log()) != 1 {
		t.Errorf("what was told has gone on with it: %s", standing(r))
	}
	for broker := range 3 {
		if f, _ := c.Replica(1, broker); broker > 0 {
			a, err := f.Ask()
			if a.From != broker || err != api.OK {
				t.Errorf("broker %d asks %+v, %v", broker, a, err)
			}
		}
	}
}

// TestP12_3_Committed: the longest of what replicas have below their High, of several the least broker's.
func TestP12_3_Committed(t *testing.T) {
	c := led(t, formOf(4, 2, 1), 1)
	answers(t, c, []api.Entry{}, committed(0))
	gives := func(broker, high int, l ...api.Entry) {
		t.Helper()
		comes(t, c, api.OK, replyTo(broker, 0, api.Reply{Epoch: 1, Entries: in(1, l...), High: high}))
	}
	gives(3, 1, nobodys(30), nobodys(31), nobodys(32))
	answers(t, c, in(1, nobodys(30)), committed(0))
	gives(1, 1, nobodys(10), nobodys(11))
	answers(t, c, in(1, nobodys(10)), committed(0))
	gives(2, 2, nobodys(20), nobodys(21))
	answers(t, c, in(1, nobodys(20), nobodys(21)), committed(0))
	answers(t, c, in(1, nobodys(20), nobodys(21)), seen(0))
	comes(t, c, api.OK, replyTo(3, 0, api.Reply{Epoch: 1, Base: 3, Last: 1, High: 3}))
	answers(t, c, in(1, nobodys(30), nobodys(31), nobodys(32)), committed(0))
	comes(t, c, api.OK, replyTo(1, 0, api.Reply{Epoch: 1, Base: 2, Last: 1, Entries: in(1, nobodys(12)), High: 3}))
	answers(t, c, in(1, nobodys(10), nobodys(11), nobodys(12)), committed(0))
	answers(t, c, in(1, nobodys(10), nobodys(11), nobodys(12)), seen(0))
	answers(t, c, []api.Entry{}, committed(1))
	for _, part := range outside(2) {
		refuses(t, c, api.ErrArg, committed(part), seen(part))
	}
	wantLog(t, c, 0, 0, 0, 0)
}

// TestP12_3_CommittedLast: the last partition's, of the last broker.
func TestP12_3_CommittedLast(t *testing.T) {
	c := led(t, formOf(4, 4, 1), 1)
	comes(t, c, api.OK, replyTo(3, 3, api.Reply{Epoch: 1, Entries: in(1, nobodys(9)), High: 1}))
	for part := range 3 {
		answers(t, c, []api.Entry{}, committed(part))
	}
	answers(t, c, in(1, nobodys(9)), committed(3))
}

// TestP12_3_Visible: what readers may see of what is committed.
func TestP12_3_Visible(t *testing.T) {
	c := led(t, formOf(1, 1, 4), 1)
	for _, row := range []struct {
		e    api.Entry
		want []api.Entry
	}{
		{nobodys(1), in(1, nobodys(1))},
		{data(0, 1, 0), in(1, nobodys(1))},
		{data(1, 1, 0), in(1, nobodys(1))},
		{nobodys(2), in(1, nobodys(1))},
		{aborts(0, 1), in(1, nobodys(1))},
		{commits(1, 1), in(1, nobodys(1), data(1, 1, 0), nobodys(2))},
		{data(2, 1, 0), in(1, nobodys(1), data(1, 1, 0), nobodys(2))},
		{commits(2, 1), in(1, nobodys(1), data(1, 1, 0), nobodys(2), data(2, 1, 0))},
	} {
		was, _ := c.Visible(0)
		comes(t, c, api.OK, dataTo(0, 0, row.e))
		// As long as it is not committed there is nothing more to be seen.
		answers(t, c, was, seen(0))
		steps(t, c, flush(0, 0))
		answers(t, c, row.want, seen(0))
	}
}

// TestP12_3_ListsAreNew: what Committed and Visible told is nobody else's.
func TestP12_3_ListsAreNew(t *testing.T) {
	c := led(t, formOf(1, 1, 1), 1)
	appends(t, c, 0, 0, nobodys(1), nobodys(2), nobodys(3))
	comes(t, c, api.OK, dataTo(0, 0, nobodys(4)))
	was := told(c)
	for _, tell := range []func(int) ([]api.Entry, api.Errno){c.Committed, c.Visible} {
		l, _ := tell(0)
		for at := range l[:cap(l)] {
			l[:cap(l)][at].Value = 99
		}
		if told(c) != was {
			t.Errorf("%s, then %s", was, told(c))
		}
	}
}

// TestP12_3_Copy: another one with the same, that goes on apart.
func TestP12_3_Copy(t *testing.T) {
	c := rich(t)
	was := told(c)
	for _, l := range [][]api.Choice{
		{write(0, 0, 1)}, {flush(0, 0)}, {crash(0, 0)}, {elect(1, 2)}, {fence(0)}, {mark(1)}, {deliver(0)}, {deliver(-1)}, {drop(0)}, {drop(3)}, {tell(0, 1)},
		{fetch(1, 1, 0)}, {propose(1, 0, 7)}, {drop(6), drop(5), drop(4), tell(0, 1)}, {deliver(1), deliver(0)},
	} {
		a, b := c.Copy(), c.Copy()
		if told(a) != was || !Same(a, c) || !Same(c, a) || !Same(a, b) {
			t.Errorf("the copy of %s is %s", was, told(a))
		}
		a.Run(l...)
		now := told(a)
		if told(c) != was || told(b) != was || Same(a, c) || now == was {
			t.Errorf("%v: the copy is %s, what was copied %s", l, now, told(c))
		}
		b.Run(l...)
		if !Same(a, b) || told(b) != now {
			t.Errorf("%v: %s and %s", l, now, told(b))
		}
		// And the other way round.
		d := c.Copy()
		e := d.Copy()
		d.Run(l...)
		if told(e) != was || told(d) != now {
			t.Errorf("%v: the copy is %s", l, told(e))
		}
	}
	a := c.Copy()
	does(t, a, begin(0), put(full(api.MsgView, 0, 0)))
	if told(c) != was || Same(a, c) {
		t.Errorf("%s", told(c))
	}
	least := led(t, formOf(2, 1, 1), 3).Copy()
	stepsRefused(t, least, api.ErrFew, write(0, 0, 1))
	stepsRefused(t, least, api.ErrArg, write(0, 2, 1), mark(1), tell(1, 0))
}

// TestP12_3_CopyOfMany: each replica of the copy goes on apart, of forms of few brokers and many partitions, and the other way round.
func TestP12_3_CopyOfMany(t *testing.T) {
	for _, f := range []api.Form{formOf(1, 4, 1), formOf(4, 1, 1), formOf(2, 4, 1), formOf(4, 2, 1)} {
		c := led(t, f, 1)
		was := told(c)
		for part := range f.Parts {
			for broker := range f.Brokers {
				d := c.Copy()
				comes(t, d, api.OK, viewTo(broker, part, view(broker, 5, 5, broker)))
				steps(t, d, write(part, broker, 1), flush(part, broker))
				if told(c) != was {
					t.Fatalf("%s, then %s", was, told(c))
				}
			}
		}
	}
}

// TestP12_3_SameOfNone: what is none is like what is none alone.
func TestP12_3_SameOfNone(t *testing.T) {
	c := clusterOf(t, formOf(1, 1, 1), 1)
	for _, none := range nones() {
		if Same(none, c) || Same(c, none) {
			t.Error("none is like one")
		}
		for _, other := range nones() {
			if !Same(none, other) {
				t.Error("none is not like none")
			}
		}
	}
	if !Same(c, c) {
		t.Error("it is not like itself")
	}
}

// TestP12_3_SameOfForms: another form, another least.
func TestP12_3_SameOfForms(t *testing.T) {
	l := []*Cluster{
		clusterOf(t, formOf(2, 2, 2), 2), clusterOf(t, formOf(1, 2, 2), 2), clusterOf(t, formOf(2, 1, 2), 2), clusterOf(t, formOf(2, 2, 1), 2), clusterOf(t, formOf(2, 2, 2), 1),
		clusterOf(t, formOf(3, 2, 2), 2), clusterOf(t, formOf(2, 3, 2), 2), clusterOf(t, formOf(2, 2, 3), 2), clusterOf(t, formOf(2, 2, 2), 3),
	}
	for i, a := range l {
		for j, b := range l {
			if Same(a, b) != (i == j) {
				t.Errorf("%d and %d: %v", i, j, i != j)
			}
		}
	}
}

// TestP12_3_SameOfReplicas: each replica, and the controller, counts.
func TestP12_3_SameOfReplicas(t *testing.T) {
	c := led(t, formOf(2, 4, 2), 1)
	for part := range 4 {
		for broker := range 2 {
			a := c.Copy()
			if broker == 0 {
				steps(t, a, write(part, broker, 1))
			} else {
				comes(t, a, api.OK, viewTo(broker, part, view(0, 9, 9, 0)))
			}
			if Same(a, c) || Same(c, a) {
				t.Errorf("with another replica of %d at %d it is the same", part, broker)
			}
		}
	}
	for _, d := range []deed{begin(0), begin(1), step(fence(1)), step(elect(2, 1)), add(1, 0, 2), end(0, 0, true, 1)} {
		a := c.Copy()
		does(t, a, d)
		if Same(a, c) || Same(c, a) {
			t.Errorf("behind %s it is the same", d.text)
		}
	}
}

// unlike is messages each two of which differ, whatever the field.
func unlike() (l []api.Msg) {
	with := func(kind api.MsgKind, change func(m *api.Msg)) {
		m := full(kind, 0, 0)
		if toController(kind) {
			m.To = -1
		}
		change(&m)
		l = append(l, m)
	}
	for _, kind := range kinds {
		with(kind, func(m *api.Msg) {})
		with(kind, func(m *api.Msg) { m.Part = 1 })
		if !toController(kind) {
			with(kind, func(m *api.Msg) { m.To = 1 })
		}
	}
	with(api.MsgView, func(m *api.Msg) { m.View.Leader = 0 })
	with(api.MsgView, func(m *api.Msg) { m.View.Epoch++ })
	with(api.MsgView, func(m *api.Msg) { m.View.Version++ })
	with(api.MsgView, func(m *api.Msg) { m.View.ISR = []int{0} })
	with(api.MsgView, func(m *api.Msg) { m.View.ISR = []int{0, 2} })
	with(api.MsgFetch, func(m *api.Msg) { m.Fetch.From++ })
	with(api.MsgFetch, func(m *api.Msg) { m.Fetch.Epoch++ })
	with(api.MsgFetch, func(m *api.Msg) { m.Fetch.Offset++ })
	with(api.MsgFetch, func(m *api.Msg) { m.Fetch.Last++ })
	with(api.MsgFetch, func(m *api.Msg) { m.Fetch.Flushed++ })
	with(api.MsgReply, func(m *api.Msg) { m.Reply.Epoch++ })
	with(api.MsgReply, func(m *api.Msg) { m.Reply.Base++ })
	with(api.MsgReply, func(m *api.Msg) { m.Reply.Last++ })
	with(api.MsgReply, func(m *api.Msg) { m.Reply.Cut = false })
	with(api.MsgReply, func(m *api.Msg) { m.Reply.CutEpoch++ })
	with(api.MsgReply, func(m *api.Msg) { m.Reply.CutEnd++ })
	with(api.MsgReply, func(m *api.Msg) { m.Reply.High++ })
	with(api.MsgReply, func(m *api.Msg) { m.Reply.Entries = m.Reply.Entries[:1] })
	with(api.MsgReply, func(m *api.Msg) { m.Reply.Entries[1].Value++ })
	with(api.MsgAlter, func(m *api.Msg) { m.Alter.Leader++ })
	with(api.MsgAlter, func(m *api.Msg) { m.Alter.Epoch++ })
	with(api.MsgAlter, func(m *api.Msg) { m.Alter.Version++ })
	with(api.MsgAlter, func(m *api.Msg) { m.Alter.ISR = nil })
	with(api.MsgAlter, func(m *api.Msg) { m.Alter.ISR = []int{1, 0} })
	for _, kind := range []api.MsgKind{api.MsgMark, api.MsgData} {
		with(kind, func(m *api.Msg) { m.Entry.Epoch++ })
		with(kind, func(m *api.Msg) { m.Entry.Seq++ })
		with(kind, func(m *api.Msg) { m.Entry.Kind++ })
		with(kind, func(m *api.Msg) { m.Entry.Value++ })
	}
	for _, kind := range []api.MsgKind{api.MsgMark, api.MsgData, api.MsgMarked} {
		with(kind, func(m *api.Msg) { m.Entry.ID++ })
		with(kind, func(m *api.Msg) { m.Entry.Num++ })
	}
	return l
}

// TestP12_3_SameOfBags: each field of a message counts, how many there are, and their order; nil and empty lists are the same.
func TestP12_3_SameOfBags(t *testing.T) {
	l := unlike()
	for i := range l {
		for j := range l {
			a, b := bagOf(t, l[i]), bagOf(t, l[j])
			if Same(a, b) != (i == j) || Same(bagOf(t, l[i], l[j]), bagOf(t, l[j], l[i])) != (i == j) {
				t.Errorf("%+v and %+v: %v", l[i], l[j], i != j)
			}
		}
		if Same(bagOf(t, l[i]), bagOf(t)) || Same(bagOf(t), bagOf(t, l[i])) || Same(bagOf(t, l[i]), bagOf(t, l[i], l[i])) {
			t.Errorf("%+v: with it, without it the same", l[i])
		}
	}
	if !Same(bagOf(t, alterOf(0, 0, 1, 1)), bagOf(t, alterOf(0, 0, 1, 1, []int{}...))) || !Same(bagOf(t, replyTo(0, 0, api.Reply{})), bagOf(t, replyTo(0, 0, api.Reply{Entries: []api.Entry{}}))) ||
		!Same(bagOf(t, viewTo(0, 0, api.View{ISR: []int{}})), bagOf(t, viewTo(0, 0, api.View{}))) {
		t.Error("nil and empty lists are not the same")
	}
}

// bagOf is a cluster that has just these messages.
func bagOf(t *testing.T, l ...api.Msg) *Cluster {
	t.Helper()
	c := clusterOf(t, formOf(2, 2, 1), 1)
	for _, m := range l {
		does(t, c, put(m))
	}
	return c
}
