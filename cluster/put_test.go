package cluster

import (
	"fmt"
	"math"
	"testing"

	"waystation/api"
)

// full is a message of a kind that has all that a message may have.
func full(kind api.MsgKind, to, part int) api.Msg {
	return api.Msg{
		Kind: kind, To: to, Part: part, View: view(1, 2, 3, 0, 1), Fetch: asks(1, 2, 3, 4, 2),
		Reply: api.Reply{Epoch: 1, Base: 2, Last: 3, Cut: true, CutEpoch: 4, CutEnd: 5, Entries: in(6, data(0, 1, 2), nobodys(4)), High: 7},
		Alter: api.Alter{Leader: 1, Epoch: 2, Version: 3, ISR: []int{0, 1}}, Entry: in(9, data(1, 2, 3))[0],
	}
}

// kept is what of that message its kind names.
func kept(kind api.MsgKind, to, part int) api.Msg {
	m, all := api.Msg{Kind: kind, To: to, Part: part}, full(kind, to, part)
	switch kind {
	case api.MsgView:
		m.View = all.View
	case api.MsgFetch:
		m.Fetch = all.Fetch
	case api.MsgReply:
		m.Reply = all.Reply
	case api.MsgAlter:
		m.Alter = all.Alter
	case api.MsgMarked:
		m.Entry = api.Entry{ID: 1, Num: 2}
	default:
		m.Entry = all.Entry
	}
	return m
}

// toController tells whether a kind goes to the controller.
func toController(kind api.MsgKind) bool { return kind == api.MsgAlter || kind == api.MsgMarked }

// kinds is all that there are.
var kinds = []api.MsgKind{api.MsgView, api.MsgFetch, api.MsgReply, api.MsgAlter, api.MsgMark, api.MsgMarked, api.MsgData}

// TestP12_1_Put: messages of each kind are put, to each broker, of each partition; what their kind does not name is zero.
func TestP12_1_Put(t *testing.T) {
	c := clusterOf(t, formOf(3, 2, 1), 1)
	var want []api.Msg
	for _, kind := range kinds {
		for part := range 2 {
			for to := -1; to < 3; to++ {
				if toController(kind) != (to == -1) {
					refuses(t, c, api.ErrArg, put(full(kind, to, part)))
					continue
				}
				does(t, c, put(full(kind, to, part)))
				want = append(want, kept(kind, to, part))
			}
		}
	}
	wantBag(t, c, want...)
	if len(want) != 2*(3*5+2) {
		t.Errorf("%d messages", len(want))
	}
}

// TestP12_1_PutRefused: messages of no kind, to nobody, of a partition that is none.
func TestP12_1_PutRefused(t *testing.T) {
	for n := 1; n <= 4; n++ {
		brokers, parts := n, 1+n%4
		c := clusterOf(t, formOf(brokers, parts, 1), 1)
		for _, kind := range []api.MsgKind{0, -1, 8, 9, math.MaxInt, math.MinInt, 1<<32 + 1} {
			refuses(t, c, api.ErrArg, put(api.Msg{Kind: kind}), put(full(kind, -1, 0)), put(full(kind, 0, 0)))
		}
		for _, kind := range kinds {
			to := 0
			if toController(kind) {
				to = -1
			}
			for _, part := range outside(parts) {
				refuses(t, c, api.ErrArg, put(full(kind, to, part)))
			}
			for _, to := range outside(brokers) {
				if to != -1 || !toController(kind) {
					refuses(t, c, api.ErrArg, put(full(kind, to, 0)))
				}
			}
			does(t, c, put(full(kind, to, parts-1)))
		}
		if len(c.Bag()) != 7 {
			t.Errorf("%d messages", len(c.Bag()))
		}
	}
}

// TestP12_1_PutIntoAFullBag: what may not be is refused, what may is lost.
func TestP12_1_PutIntoAFullBag(t *testing.T) {
	c := clusterOf(t, formOf(1, 1, 1), 1)
	fill(t, c, api.MaxBag)
	refuses(t, c, api.ErrArg, put(api.Msg{}), put(full(api.MsgView, 1, 0)), put(full(api.MsgAlter, 0, 0)))
	was := told(c)
	does(t, c, put(full(api.MsgView, 0, 0)))
	if told(c) != was {
		t.Errorf("%s", told(c))
	}
}

// spoil changes all that a message's lists have, spare room behind them included.
func spoil(m api.Msg) {
	for _, l := range [][]int{m.View.ISR, m.Alter.ISR} {
		l = l[:cap(l)]
		for at := range l {
			l[at] = -99
		}
	}
	entries := m.Reply.Entries[:cap(m.Reply.Entries)]
	for at := range entries {
		entries[at].Value = -99
	}
}

// roomy is a message whose lists have spare room.
func roomy(kind api.MsgKind) api.Msg {
	m := full(kind, 0, 0)
	if toController(kind) {
		m.To = -1
	}
	m.View.ISR = append(make([]int, 0, 9), m.View.ISR...)
	m.Alter.ISR = append(make([]int, 0, 9), m.Alter.ISR...)
	m.Reply.Entries = append(make([]api.Entry, 0, 9), m.Reply.Entries...)
	return m
}

// TestP12_1_PutIsNotKept: a message that is changed behind its being put is in the bag as it was, and is not changed by what comes of it.
func TestP12_1_PutIsNotKept(t *testing.T) {
	c := clusterOf(t, formOf(2, 1, 1), 1)
	for _, kind := range kinds {
		m := roomy(kind)
		does(t, c, put(m))
		was := told(c)
		spoil(m)
		if told(c) != was {
			t.Errorf("%s, then %s", was, told(c))
		}
		m = roomy(kind)
		does(t, c, put(m))
		c.Step(double(-1))
		c.Step(deliver(-1))
		steps(t, c, drop(0))
		if fmt.Sprint(m) != fmt.Sprint(roomy(kind)) || fmt.Sprint(m.Alter.ISR[:9], m.View.ISR[:9], m.Reply.Entries[:9]) != fmt.Sprint(roomy(kind).Alter.ISR[:9], roomy(kind).View.ISR[:9], roomy(kind).Reply.Entries[:9]) {
			t.Errorf("%+v", m)
		}
	}
}

// TestP12_1_WhatComesIsNotKept: what a message said that stays in the bag, and what came of it, share nothing.
func TestP12_1_WhatComesIsNotKept(t *testing.T) {
	c := clusterOf(t, formOf(2, 1, 1), 1)
	does(t, c, put(viewTo(0, 0, view(0, 1, 1, 0, 1))), step(double(0)), put(viewTo(1, 0, view(0, 1, 1, 0, 1))), step(double(1)),
		put(replyTo(1, 0, api.Reply{Epoch: 1, Entries: in(1, nobodys(1), nobodys(2))})), step(double(2)), step(elect(0, 0)), put(alterOf(0, 0, 1, 1, 0)), step(double(3)))
	bag := fmt.Sprint(c.Bag())
	does(t, c, step(fence(1)), step(register(1)), step(write(0, 0, 9)), put(viewTo(0, 0, view(0, 1, 7, 0))), step(deliver(-1)),
		put(replyTo(1, 0, api.Reply{Epoch: 1, Base: 2, Last: 1, Cut: true})), step(deliver(-1)), put(alterOf(0, 0, 1, 2, 0, 1)), step(deliver(-1)))
	if got := fmt.Sprint(c.Bag()); got != bag {
		t.Errorf("%s, then %s", bag, got)
	}
}
