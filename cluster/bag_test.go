package cluster

import (
	"math"
	"testing"

	"waystation/api"
)

// three is a cluster with three messages that are unlike, and the messages.
func three(t *testing.T) (*Cluster, []api.Msg) {
	t.Helper()
	c := clusterOf(t, formOf(2, 2, 1), 1)
	steps(t, c, elect(0, 0), elect(1, 1), tell(0, 0), tell(0, 1), tell(1, 1))
	l := []api.Msg{viewTo(0, 0, view(0, 1, 1, 0, 1)), viewTo(1, 0, view(0, 1, 1, 0, 1)), viewTo(1, 1, view(1, 1, 1, 0, 1))}
	wantBag(t, c, l...)
	return c, l
}

// picked is which of three a number picks.
var picked = []struct{ a, at int }{
	{0, 0}, {1, 1}, {2, 2}, {3, 0}, {4, 1}, {5, 2}, {-1, 2}, {-2, 1}, {-3, 0}, {-4, 2},
	{math.MaxInt, 1}, {math.MaxInt - 1, 0}, {math.MinInt, 1}, {math.MinInt + 1, 2}, {1 << 32, 1}, {-1 << 32, 2},
}

// but is all messages but one.
func but(l []api.Msg, at int) []api.Msg {
	var left []api.Msg
	for i, m := range l {
		if i != at {
			left = append(left, m)
		}
	}
	return left
}

// roleOf is what a replica does.
func roleOf(c *Cluster, part, broker int) api.Role {
	r, _ := c.Replica(part, broker)
	return r.Standing().Role
}

// TestP12_1_DeliverDoubleDrop: the message that is picked comes, or comes and stays, or is lost.
func TestP12_1_DeliverDoubleDrop(t *testing.T) {
	c, l := three(t)
	for _, row := range picked {
		came := c.Copy()
		steps(t, came, deliver(row.a))
		wantBag(t, came, but(l, row.at)...)
		twice := c.Copy()
		steps(t, twice, double(row.a))
		wantBag(t, twice, l...)
		lost := c.Copy()
		steps(t, lost, drop(row.a))
		wantBag(t, lost, but(l, row.at)...)
		for at, m := range l {
			does := api.RoleNone
			if at == row.at {
				does = []api.Role{api.RoleLead, api.RoleFollow, api.RoleLead}[at]
			}
			if roleOf(came, m.Part, m.To) != does || roleOf(twice, m.Part, m.To) != does || roleOf(lost, m.Part, m.To) != api.RoleNone {
				t.Errorf("pick %d: %s, %s, %s", row.a, told(came), told(twice), told(lost))
			}
		}
	}
	for range 3 {
		steps(t, c, drop(-1))
	}
	stepsRefused(t, c, api.ErrNone, deliver(0), deliver(-1), deliver(math.MinInt), double(0), double(5), drop(0), drop(math.MaxInt))
}

// TestP12_1_RefusedIsOut: a message that is delivered is out of the bag, whatever is answered; what is doubled stays.
func TestP12_1_RefusedIsOut(t *testing.T) {
	c, l := three(t)
	steps(t, c, double(0))
	stepsAnswered(t, c, api.ErrOld, double(0), double(3))
	wantBag(t, c, l...)
	stepsAnswered(t, c, api.ErrOld, deliver(0))
	wantBag(t, c, l[1:]...)
}

// fill puts messages till so many are in the bag.
func fill(t *testing.T, c *Cluster, n int) {
	t.Helper()
	for len(c.Bag()) < n {
		does(t, c, put(markedOf(0, 0, int64(len(c.Bag())))))
	}
}

// TestP12_1_MaxBag: what is put where MaxBag are in the bag is lost, whoever puts it.
func TestP12_1_MaxBag(t *testing.T) {
	c := led(t, formOf(2, 4, 4), 1)
	for part := range 4 {
		does(t, c, add(0, 0, part))
	}
	does(t, c, end(0, 0, true, 0))
	appends(t, c, 0, 0, commits(1, 1), commits(2, 1), commits(3, 1))
	fill(t, c, api.MaxBag)
	stepsLost := func(l ...api.Choice) {
		t.Helper()
		was := told(c)
		steps(t, c, l...)
		if told(c) != was {
			t.Errorf("%v changed %s to %s", l, was, told(c))
		}
	}
	stepsLost(tell(0, 0), fetch(0, 1, 0), propose(0, 0, 3), mark(0), report(0, 0))
	does(t, c, put(markedOf(0, 0, 999)))
	if l := c.Bag(); len(l) != 256 || l[255].Entry.Num != 255 {
		t.Errorf("%d messages, the last one %+v", len(l), l[len(l)-1])
	}
	// As many as there is room for go in, the first ones of those that are put.
	steps(t, c, drop(0), mark(0))
	wantLast(t, c, markTo(0, 0, commits(0, 1)))
	steps(t, c, drop(-1), drop(-1), report(0, 0))
	wantLast(t, c, markedOf(0, 1, 1), markedOf(0, 2, 1))
	steps(t, c, drop(-1), drop(-1), drop(-1), mark(0))
	wantLast(t, c, markTo(0, 0, commits(0, 1)), markTo(0, 1, commits(0, 1)), markTo(0, 2, commits(0, 1)))
}

// wantLast fails unless the bag is full, and these are the last messages of it.
func wantLast(t *testing.T, c *Cluster, want ...api.Msg) {
	t.Helper()
	l := c.Bag()
	if len(l) != api.MaxBag {
		t.Fatalf("%d messages", len(l))
	}
	d := clusterOf(t, c.Meta().Form(), 1)
	for _, m := range l[len(l)-len(want):] {
		does(t, d, put(m))
	}
	wantBag(t, d, want...)
}

// TestP12_1_ReplyIntoAFullBag: a fetch that is delivered leaves room for its reply; one that is doubled does not.
func TestP12_1_ReplyIntoAFullBag(t *testing.T) {
	c := led(t, formOf(2, 1, 1), 1)
	steps(t, c, write(0, 0, 8), flush(0, 0), fetch(0, 1, 0))
	fill(t, c, api.MaxBag)
	last := c.Bag()[255]
	steps(t, c, double(0))
	wantLast(t, c, last)
	steps(t, c, deliver(0))
	wantLast(t, c, last, replyTo(1, 0, api.Reply{Epoch: 1, Entries: in(1, nobodys(8))}))
	// It was served all the same.
	does(t, c, step(drop(0)), put(fetchTo(0, 0, asks(1, 1, 1, 1, 1))), step(drop(0)), put(markedOf(0, 0, 1)), step(double(-2)))
	wantLast(t, c, markedOf(0, 0, 1))
	answers(t, c, in(1, nobodys(8)), committed(0))
}
