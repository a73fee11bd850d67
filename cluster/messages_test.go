package cluster

import (
	"math"
	"testing"

	"waystation/api"
)

// TestP12_1_ViewComes: the replica learns it.
func TestP12_1_ViewComes(t *testing.T) {
	c := led(t, formOf(2, 2, 1), 1)
	comes(t, c, api.ErrOld, viewTo(0, 1, view(0, 1, 1, 0, 1)), viewTo(1, 1, view(0, 0, 9, 0, 1)))
	comes(t, c, api.ErrArg, viewTo(0, 1, view(0, 2, 2, 1)), viewTo(0, 1, view(0, 2, 2)), viewTo(0, 1, view(0, 2, 2, 1, 0)), viewTo(0, 1, view(4, 2, 2, 4)),
		viewTo(0, 1, view(-2, 2, 2, 0)), viewTo(0, 1, view(0, -1, 2, 0)), viewTo(0, 1, view(0, 2, math.MaxInt64, 0)), viewTo(1, 0, api.View{}))
	comes(t, c, api.OK, viewTo(0, 1, view(0, 1, 2, 0)), viewTo(1, 1, view(-1, 7, 7, 0)))
	if roleOf(c, 1, 1) != api.RoleNone || roleOf(c, 0, 1) != api.RoleFollow || roleOf(c, 1, 0) != api.RoleLead {
		t.Error(told(c))
	}
	// The controller knows nothing of it.
	wantView(t, c, 1, view(0, 1, 1, 0, 1))
	comes(t, c, api.OK, viewTo(1, 1, view(1, 7+1, 7, 1)))
	steps(t, c, write(1, 1, 3), flush(1, 1))
	answers(t, c, in(8, nobodys(3)), committed(1))
	// The last epoch that may be.
	comes(t, c, api.OK, viewTo(0, 0, view(1, api.MaxNumber, api.MaxNumber, 1)))
	comes(t, c, api.ErrOld, viewTo(0, 0, view(1, api.MaxNumber-1, api.MaxNumber, 1)))
}

// TestP12_1_FetchComes: the replica serves it, at most 4 entries, and the reply is put to who fetches.
func TestP12_1_FetchComes(t *testing.T) {
	c := led(t, formOf(3, 2, 1), 1)
	l := in(1, nobodys(0), nobodys(1), nobodys(2), nobodys(3), nobodys(4), nobodys(5))
	for n := range l {
		steps(t, c, write(1, 0, n))
		// How many it has at most, by how many there are.
		comes(t, c, api.OK, fetchTo(0, 1, asks(2, 1, 0, 0, 0)))
		wantBag(t, c, replyTo(2, 1, api.Reply{Epoch: 1, Entries: l[:min(n+1, 4)]}))
		steps(t, c, drop(0))
	}
	for at := 1; at <= len(l); at++ {
		comes(t, c, api.OK, fetchTo(0, 1, asks(1, 1, at, 1, 0)))
		wantBag(t, c, replyTo(1, 1, api.Reply{Epoch: 1, Base: at, Last: 1, Entries: l[at:min(at+4, 6)]}))
		steps(t, c, drop(0))
	}
	comes(t, c, api.OK, fetchTo(0, 1, asks(1, 1, 7, 1, 0)), fetchTo(0, 1, asks(2, 1, 2, 9, 0)))
	wantBag(t, c, replyTo(1, 1, api.Reply{Epoch: 1, Base: 7, Last: 1, Cut: true, CutEpoch: 1, CutEnd: 6}),
		replyTo(2, 1, api.Reply{Epoch: 1, Base: 2, Last: 9, Cut: true, CutEpoch: 1, CutEnd: 6}))
	steps(t, c, drop(0), drop(0))
	comes(t, c, api.ErrLead, fetchTo(1, 1, asks(0, 1, 0, 0, 0)), fetchTo(2, 1, asks(0, 1, 0, 0, 0)))
	comes(t, c, api.ErrOld, fetchTo(0, 1, asks(1, 0, 0, 0, 0)), fetchTo(0, 1, asks(1, 2, 0, 0, 0)))
	comes(t, c, api.ErrArg, fetchTo(0, 1, asks(0, 1, 0, 0, 0)), fetchTo(1, 1, asks(1, 1, 0, 0, 0)), fetchTo(0, 1, asks(-1, 1, 0, 0, 0)), fetchTo(0, 1, asks(4, 1, 0, 0, 0)),
		fetchTo(0, 1, asks(1, -1, 0, 0, 0)), fetchTo(0, 1, asks(1, 1, -1, 0, 0)), fetchTo(0, 1, asks(1, 1, 1, -1, 0)), fetchTo(0, 1, asks(1, 1, 1, 1, 2)), fetchTo(0, 1, asks(1, 1, 1, 1, -1)))
	wantBag(t, c)
}

// TestP12_1_FetchOfNobody: a broker that the form has not fetches nothing, as no reply could be put to it; nothing is known of it then.
func TestP12_1_FetchOfNobody(t *testing.T) {
	for brokers := 1; brokers <= 4; brokers++ {
		c := led(t, formOf(brokers, 1, 1), 1)
		for _, from := range outside(brokers) {
			comes(t, c, api.ErrArg, fetchTo(0, 0, asks(from, 1, 0, 0, 0)), fetchTo(brokers-1, 0, asks(from, 1, 0, 0, 0)))
			does(t, c, put(fetchTo(0, 0, asks(from, 1, 0, 0, 0))))
			stepsRefused(t, c, api.ErrArg, double(0))
			steps(t, c, drop(0))
		}
	}
}

// TestP12_1_ReplyComes: the replica takes it.
func TestP12_1_ReplyComes(t *testing.T) {
	c := led(t, formOf(2, 2, 1), 1)
	some := api.Reply{Epoch: 1, Entries: in(1, nobodys(1), nobodys(2)), High: 1}
	comes(t, c, api.ErrLead, replyTo(0, 1, some))
	comes(t, c, api.OK, replyTo(1, 1, some))
	wantLog(t, c, 1, 1, 0, 1, some.Entries...)
	wantLog(t, c, 0, 1, 0, 0)
	comes(t, c, api.ErrOld, replyTo(1, 1, some), replyTo(1, 0, api.Reply{Epoch: 2}), replyTo(1, 0, api.Reply{Epoch: 1, Last: 1}), replyTo(1, 1, api.Reply{Epoch: 1, Base: 2}))
	comes(t, c, api.ErrArg, replyTo(1, 0, api.Reply{Epoch: -1}), replyTo(1, 0, api.Reply{Epoch: 1, High: -1}), replyTo(1, 0, api.Reply{Epoch: 1, Entries: []api.Entry{{}}}),
		replyTo(0, 0, api.Reply{Epoch: 1, CutEnd: -1}), replyTo(1, 0, api.Reply{Epoch: 1, Entries: append(in(2, nobodys(1)), in(1, nobodys(1))...)}))
	// More than choices would serve.
	many := in(1, nobodys(3), nobodys(4), nobodys(5), nobodys(6), nobodys(7), nobodys(8))
	comes(t, c, api.OK, replyTo(1, 0, api.Reply{Epoch: 1, Entries: many, High: 99}))
	wantLog(t, c, 0, 1, 0, 6, many...)
	answers(t, c, many, committed(0))
	comes(t, c, api.OK, replyTo(1, 1, api.Reply{Epoch: 1, Base: 2, Last: 1, Cut: true, CutEpoch: 1, CutEnd: 1}))
	wantLog(t, c, 1, 1, 0, 1, some.Entries[:1]...)
	comes(t, c, api.ErrLong, replyTo(1, 0, api.Reply{Epoch: 1, Base: 6, Last: 1, Entries: make4096()}))
}

// make4096 is as many entries as a log has at most.
func make4096() []api.Entry {
	var l []api.Entry
	for n := range api.MaxLog {
		l = append(l, nobodys(int64(n)))
	}
	return in(1, l...)
}

// TestP12_1_AlterComes: what the controller answers to it, of its Part.
func TestP12_1_AlterComes(t *testing.T) {
	c := led(t, formOf(3, 2, 1), 1)
	comes(t, c, api.ErrStale, alterOf(1, 0, 1, 2, 0), alterOf(1, 0, 2, 1, 0), alterOf(1, 1, 1, 1, 0, 1), alterOf(1, 0, 0, 0, 0))
	comes(t, c, api.ErrArg, alterOf(1, 0, 1, 1), alterOf(1, 0, 1, 1, 1), alterOf(1, 0, 1, 1, 0, 3), alterOf(1, 0, 1, 1, 1, 0), alterOf(1, 3, 1, 1, 0), alterOf(1, -1, 1, 1, 0), alterOf(1, 0, 1, 1, -1, 0))
	comes(t, c, api.OK, alterOf(1, 0, 1, 1, 0, 2))
	wantView(t, c, 1, view(0, 1, 2, 0, 2))
	wantView(t, c, 0, view(0, 1, 1, 0, 1, 2))
	comes(t, c, api.ErrStale, alterOf(1, 0, 1, 1, 0, 2))
	steps(t, c, fence(1))
	comes(t, c, api.ErrDead, alterOf(1, 0, 1, 2, 0, 1), alterOf(1, 0, 1, 2, 0, 1, 2))
	comes(t, c, api.OK, alterOf(1, 0, 1, 2, 0))
	wantView(t, c, 1, view(0, 1, 3, 0))
}

// TestP12_1_MarkAndDataCome: the replica appends the entry, with its own epoch.
func TestP12_1_MarkAndDataCome(t *testing.T) {
	c := led(t, formOf(2, 2, 1), 1)
	comes(t, c, api.ErrLead, dataTo(1, 1, nobodys(1)), markTo(1, 1, commits(0, 1)), dataTo(1, 0, data(0, 1, 0)))
	strange := data(0, 1, 0)
	strange.Epoch = 77
	comes(t, c, api.OK, dataTo(0, 1, strange), dataTo(0, 1, data(0, 1, 1)))
	comes(t, c, api.ErrDouble, dataTo(0, 1, data(0, 1, 0)), dataTo(0, 1, data(0, 1, 1)))
	comes(t, c, api.ErrOrder, dataTo(0, 1, data(0, 1, 3)), dataTo(0, 1, data(1, 1, 1)))
	comes(t, c, api.ErrOpen, dataTo(0, 1, data(0, 2, 0)))
	comes(t, c, api.ErrFenced, markTo(0, 1, commits(0, 2)), dataTo(0, 1, aborts(0, 2)))
	comes(t, c, api.ErrArg, dataTo(0, 1, api.Entry{}), dataTo(0, 1, data(4, 1, 0)), dataTo(0, 1, data(-2, 1, 0)), dataTo(1, 1, data(0, -1, 0)), markTo(0, 1, commits(-1, 1)), markTo(0, 1, commits(0, 0)),
		markTo(1, 1, api.Entry{ID: 0, Num: 1, Kind: 4}))
	// A message of marks may have data, one of data a marker.
	comes(t, c, api.OK, dataTo(0, 1, commits(0, 1)), markTo(0, 1, nobodys(5)), markTo(0, 1, aborts(3, 1)))
	comes(t, c, api.ErrDouble, markTo(0, 1, commits(0, 1)), markTo(0, 1, aborts(3, 1)))
	comes(t, c, api.ErrFenced, dataTo(0, 1, data(0, 1, 2)))
	wantLog(t, c, 1, 0, 0, 0, in(1, data(0, 1, 0), data(0, 1, 1), commits(0, 1), nobodys(5), aborts(3, 1))...)
	wantLog(t, c, 0, 0, 0, 0)
	d := led(t, formOf(2, 1, 1), 3)
	comes(t, d, api.ErrFew, dataTo(0, 0, nobodys(1)), markTo(0, 0, commits(0, 1)))
}

// TestP12_1_MarkedComes: what the controller answers to it, of its Part.
func TestP12_1_MarkedComes(t *testing.T) {
	c := clusterOf(t, formOf(1, 3, 2), 1)
	does(t, c, begin(1), add(1, 1, 0), add(1, 1, 2))
	comes(t, c, api.ErrStale, markedOf(0, 1, 1), markedOf(1, 0, 0))
	does(t, c, end(1, 1, true, 6))
	comes(t, c, api.ErrStale, markedOf(1, 1, 1), markedOf(0, 1, 0), markedOf(0, 1, 2), markedOf(0, 0, 1))
	comes(t, c, api.ErrArg, markedOf(0, 2, 1), markedOf(0, -1, 1), markedOf(2, math.MaxInt, 1))
	comes(t, c, api.OK, markedOf(2, 1, 1))
	wantWriting(t, c, 1, api.Writing{Session: 1, Num: 1, State: api.TxnCommit, Parts: []int{0}, Next: 6})
	comes(t, c, api.ErrStale, markedOf(2, 1, 1))
	comes(t, c, api.OK, markedOf(0, 1, 1))
	wantWriting(t, c, 1, api.Writing{Session: 1, Num: 1, State: api.TxnNone, Offset: 6})
}

// TestP12_1_Transaction: begun, written, ended, marked and reported over two partitions.
func TestP12_1_Transaction(t *testing.T) {
	c := led(t, formOf(2, 2, 1), 1)
	does(t, c, begin(0), add(0, 1, 0), add(0, 1, 1))
	appends(t, c, 0, 0, data(0, 1, 0))
	appends(t, c, 1, 0, data(0, 1, 0), nobodys(4))
	answers(t, c, in(1, data(0, 1, 0), nobodys(4)), committed(1))
	answers(t, c, []api.Entry{}, seen(1))
	does(t, c, end(0, 1, true, 1), step(mark(0)), step(deliver(0)), step(double(0)))
	stepsAnswered(t, c, api.ErrDouble, deliver(0))
	answers(t, c, []api.Entry{}, seen(1))
	for part := range 2 {
		steps(t, c, flush(part, 0))
		passes(t, c, part, 0, 1)
		steps(t, c, report(part, 0), double(0))
		stepsAnswered(t, c, api.ErrStale, deliver(0))
	}
	wantWriting(t, c, 0, api.Writing{Session: 1, Num: 1, State: api.TxnNone, Offset: 1})
	answers(t, c, in(1, data(0, 1, 0)), seen(0))
	answers(t, c, in(1, data(0, 1, 0), nobodys(4)), seen(1))
	wantBag(t, c)
}
