package meta

import (
	"math"
	"slices"
	"testing"

	"waystation/api"
)

// atEnd lets a partition's Epoch and Version be those, as if so many elections and changes had been.
func atEnd(m *Meta, part int, epoch, version int64) {
	m.views[part].Epoch, m.views[part].Version = epoch, version
}

func TestP10_2_P10_1_Examples(t *testing.T) {
	m := controller(t, 3, 1, 1)
	run(t, m, elect(0, 1))
	wantView(t, m, 0, 1, 1, 1, 0, 1, 2)
	run(t, m, fence(1))
	wantView(t, m, 0, -1, 2, 2, 0, 2)
	wantLives(t, m, true, false, true)
}

func TestP10_1_New(t *testing.T) {
	for brokers := 1; brokers <= api.MaxBrokers; brokers++ {
		for parts := 1; parts <= api.MaxParts; parts++ {
			for ids := 1; ids <= api.MaxIDs; ids++ {
				m := controller(t, brokers, parts, ids)
				if f := m.Form(); f != (api.Form{Brokers: brokers, Parts: parts, IDs: ids}) {
					t.Error(f)
				}
				wantLives(t, m, slices.Repeat([]bool{true}, brokers)...)
				for part := range parts {
					wantView(t, m, part, -1, 0, 0, []int{0, 1, 2, 3}[:brokers]...)
				}
				for id := range ids {
					wantWriting(t, m, id, 0, 0, api.TxnNone, 0, 0)
				}
			}
		}
	}
}

func TestP10_1_FormsThatMayNotBe(t *testing.T) {
	for _, n := range []int{0, -1, 5, 6, 8, 1 << 32, 1<<32 + 1, math.MinInt32, math.MaxInt32, math.MinInt, math.MaxInt} {
		for _, right := range []int{1, 4} {
			for _, f := range []api.Form{{Brokers: n, Parts: right, IDs: right}, {Brokers: right, Parts: n, IDs: right}, {Brokers: right, Parts: right, IDs: n}, {Brokers: n, Parts: n, IDs: n}} {
				if m, err := New(f); m != nil || err != api.ErrArg {
					t.Errorf("New(%v): %v, %v", f, m, err)
				}
			}
		}
	}
}

func TestP10_1_WhatNewMakesSharesNothing(t *testing.T) {
	m, other := controller(t, 3, 2, 2), controller(t, 3, 2, 2)
	run(t, m, elect(0, 1), fence(0), add(0, 0, 1))
	wantView(t, m, 1, -1, 0, 1, 1, 2)
	wantWriting(t, m, 1, 0, 0, api.TxnNone, 0, 0)
	wantLives(t, other, true, true, true)
	wantView(t, other, 0, -1, 0, 0, 0, 1, 2)
	wantWriting(t, other, 0, 0, 0, api.TxnNone, 0, 0)
}

func TestP10_1_FenceOfOneThatLeads(t *testing.T) {
	m := controller(t, 4, 4, 1)
	run(t, m, elect(0, 2), elect(1, 2), elect(1, 2), elect(2, 3))
	run(t, m, fence(2))
	wantLives(t, m, true, true, false, true)
	wantView(t, m, 0, -1, 2, 2, 0, 1, 3)
	wantView(t, m, 1, -1, 3, 3, 0, 1, 3)
	// It is in step there, and does not lead.
	wantView(t, m, 2, 3, 1, 2, 0, 1, 3)
	wantView(t, m, 3, -1, 0, 1, 0, 1, 3)
}

func TestP10_1_FenceOfOneThatIsNotInStep(t *testing.T) {
	m := controller(t, 3, 2, 1)
	run(t, m, elect(0, 0), alter(0, 0, 1, 1, 0, 1), fence(2))
	wantLives(t, m, true, true, false)
	wantView(t, m, 0, 0, 1, 2, 0, 1)
	wantView(t, m, 1, -1, 0, 1, 0, 1)
}

func TestP10_1_FenceOfOneThatIsAloneInStep(t *testing.T) {
	m := controller(t, 3, 2, 1)
	run(t, m, elect(0, 1), alter(0, 1, 1, 1, 1), fence(1))
	wantLives(t, m, true, false, true)
	wantView(t, m, 0, -1, 2, 3, 1)
	wantView(t, m, 1, -1, 0, 1, 0, 2)
	// It neither leads nor can be out of step: nothing changes.
	run(t, m, register(1), fence(1))
	wantView(t, m, 0, -1, 2, 3, 1)
	wantView(t, m, 1, -1, 0, 1, 0, 2)
	// The last one of all.
	run(t, m, fence(0), fence(2))
	wantLives(t, m, false, false, false)
	wantView(t, m, 0, -1, 2, 3, 1)
	wantView(t, m, 1, -1, 0, 2, 2)
}

func TestP10_1_FenceOfTheOnlyBroker(t *testing.T) {
	m := controller(t, 1, 1, 1)
	run(t, m, fence(0))
	wantLives(t, m, false)
	wantView(t, m, 0, -1, 0, 0, 0)
	refuses(t, m, api.ErrDead, elect(0, 0), unclean(0, 0))
	run(t, m, register(0), elect(0, 0), fence(0))
	wantLives(t, m, false)
	wantView(t, m, 0, -1, 2, 2, 0)
}

func TestP10_1_FenceOfOneThatDoesNotLiveAlready(t *testing.T) {
	m := controller(t, 3, 2, 1)
	run(t, m, elect(0, 1), elect(1, 0), fence(1))
	was := told(m)
	run(t, m, fence(1), fence(1))
	if now := told(m); now != was {
		t.Errorf("%s, then %s", was, now)
	}
}

func TestP10_1_Register(t *testing.T) {
	m := controller(t, 2, 1, 1)
	run(t, m, register(0), register(1))
	wantLives(t, m, true, true)
	wantView(t, m, 0, -1, 0, 0, 0, 1)
	run(t, m, elect(0, 1), fence(1), register(1))
	wantLives(t, m, true, true)
	// It lives, and is not in step by that.
	wantView(t, m, 0, -1, 2, 2, 0)
	run(t, m, elect(0, 0), register(0))
	wantView(t, m, 0, 0, 3, 3, 0)
}

func TestP10_1_FenceAtTheEnd(t *testing.T) {
	const last = api.MaxNumber
	for part := range 4 {
		// It leads nowhere, and is in step everywhere.
		m := controller(t, 3, 4, 1)
		atEnd(m, part, 5, last)
		refuses(t, m, api.ErrEnd, fence(1))
		wantLives(t, m, true, true, true)
		wantView(t, m, (part+1)%4, -1, 0, 0, 0, 1, 2)
		// It leads there, and is alone in step.
		m = controller(t, 3, 4, 1)
		run(t, m, elect(part, 1), alter(part, 1, 1, 1, 1))
		atEnd(m, part, last, last)
		refuses(t, m, api.ErrEnd, fence(1))
		// Another one changes nothing there.
		run(t, m, fence(0))
		wantView(t, m, part, 1, last, last, 1)
		wantView(t, m, (part+1)%4, -1, 0, 1, 1, 2)
		// One less: it goes.
		atEnd(m, part, last-1, last-1)
		run(t, m, fence(1))
		wantView(t, m, part, -1, last, last, 1)
		wantView(t, m, (part+1)%4, -1, 0, 2, 2)
		// Alone in step, it does not lead any more: nothing would change there.
		run(t, m, register(1), fence(1))
		wantLives(t, m, false, false, true)
		wantView(t, m, part, -1, last, last, 1)
	}
}

// TestP10_1_FenceAtTheEndOfOneThatIsNotInStep: nothing would change.
func TestP10_1_FenceAtTheEndOfOneThatIsNotInStep(t *testing.T) {
	m := controller(t, 3, 1, 1)
	run(t, m, elect(0, 0), alter(0, 0, 1, 1, 0, 1))
	atEnd(m, 0, api.MaxNumber, api.MaxNumber)
	run(t, m, fence(2), fence(2), register(2))
	wantView(t, m, 0, 0, api.MaxNumber, api.MaxNumber, 0, 1)
	refuses(t, m, api.ErrEnd, fence(0), fence(1))
}

func TestP10_1_BrokersThatAreNone(t *testing.T) {
	for brokers := 1; brokers <= 4; brokers++ {
		m := controller(t, brokers, 1, 1)
		run(t, m, elect(0, 0))
		for _, none := range outside(brokers) {
			refuses(t, m, api.ErrArg, fence(none), register(none), elect(0, none), unclean(0, none))
		}
	}
}

func TestP10_2_Elect(t *testing.T) {
	m := controller(t, 4, 4, 1)
	run(t, m, elect(3, 2))
	wantView(t, m, 3, 2, 1, 1, 0, 1, 2, 3)
	wantView(t, m, 0, -1, 0, 0, 0, 1, 2, 3)
	// Who leads already.
	run(t, m, elect(3, 2), unclean(3, 2))
	wantView(t, m, 3, 2, 3, 3, 0, 1, 2, 3)
	// Another one that is in step.
	run(t, m, elect(3, 0))
	wantView(t, m, 3, 0, 4, 4, 0, 1, 2, 3)
	run(t, m, unclean(3, 3))
	wantView(t, m, 3, 3, 5, 5, 0, 1, 2, 3)
}

func TestP10_2_ElectOfOneThatIsNotInStep(t *testing.T) {
	m := controller(t, 3, 2, 1)
	run(t, m, elect(0, 0), alter(0, 0, 1, 1, 0, 1))
	refuses(t, m, api.ErrSync, elect(0, 2))
	run(t, m, unclean(0, 2))
	wantView(t, m, 0, 2, 2, 3, 2)
	wantView(t, m, 1, -1, 0, 0, 0, 1, 2)
	refuses(t, m, api.ErrSync, elect(0, 0), elect(0, 1))
	run(t, m, unclean(0, 0))
	wantView(t, m, 0, 0, 3, 4, 0)
	// While nobody leads.
	run(t, m, fence(0))
	refuses(t, m, api.ErrSync, elect(0, 1))
	run(t, m, unclean(0, 1))
	wantView(t, m, 0, 1, 5, 6, 1)
}

func TestP10_2_ElectOfOneThatDoesNotLive(t *testing.T) {
	m := controller(t, 2, 2, 1)
	run(t, m, elect(0, 0), fence(0))
	refuses(t, m, api.ErrDead, elect(0, 0), unclean(0, 0), elect(1, 0), unclean(1, 0))
	run(t, m, elect(0, 1), register(0))
	refuses(t, m, api.ErrSync, elect(0, 0), elect(1, 0))
	// Alone in step, and it does not live.
	run(t, m, fence(1))
	wantView(t, m, 0, -1, 4, 4, 1)
	refuses(t, m, api.ErrDead, elect(0, 1), unclean(0, 1))
	run(t, m, register(1), elect(0, 1))
	wantView(t, m, 0, 1, 5, 5, 1)
}

func TestP10_2_ElectAtTheEnd(t *testing.T) {
	m := controller(t, 2, 2, 1)
	run(t, m, elect(0, 0), alter(0, 0, 1, 1, 0))
	atEnd(m, 0, api.MaxNumber-2, api.MaxNumber-1)
	run(t, m, elect(0, 0))
	wantView(t, m, 0, 0, api.MaxNumber-1, api.MaxNumber, 0)
	refuses(t, m, api.ErrEnd, elect(0, 0), unclean(0, 0), unclean(0, 1))
	atEnd(m, 0, api.MaxNumber, api.MaxNumber)
	refuses(t, m, api.ErrEnd, elect(0, 0), unclean(0, 0), unclean(0, 1))
	run(t, m, elect(1, 0))
}

func TestP10_2_Alter(t *testing.T) {
	m := controller(t, 4, 2, 1)
	run(t, m, elect(1, 2))
	// To the list that is there already.
	run(t, m, alter(1, 2, 1, 1, 0, 1, 2, 3))
	wantView(t, m, 1, 2, 1, 2, 0, 1, 2, 3)
	// To the leader alone, and back.
	run(t, m, alter(1, 2, 1, 2, 2))
	wantView(t, m, 1, 2, 1, 3, 2)
	run(t, m, alter(1, 2, 1, 3, 2))
	wantView(t, m, 1, 2, 1, 4, 2)
	run(t, m, alter(1, 2, 1, 4, 0, 2, 3))
	wantView(t, m, 1, 2, 1, 5, 0, 2, 3)
	run(t, m, alter(1, 2, 1, 5, 1, 2))
	wantView(t, m, 1, 2, 1, 6, 1, 2)
	wantView(t, m, 0, -1, 0, 0, 0, 1, 2, 3)
	wantLives(t, m, true, true, true, true)
}

func TestP10_2_AltersThatAreStale(t *testing.T) {
	m := controller(t, 4, 2, 1)
	run(t, m, elect(0, 2), elect(0, 1), alter(0, 1, 2, 2, 0, 1, 2), elect(1, 3))
	wantView(t, m, 0, 1, 2, 3, 0, 1, 2)
	for _, leader := range []int{0, 2, 3} {
		refuses(t, m, api.ErrStale, alter(0, leader, 2, 3, 0, 1, 2, 3), alter(0, leader, 2, 3, leader))
	}
	for _, n := range append(wild(), 0, 1, 4, 5) {
		refuses(t, m, api.ErrStale, alter(0, 1, n, 3, 0, 1), alter(0, 1, 2, n, 0, 1), alter(0, 1, n, n, 0, 1))
	}
	refuses(t, m, api.ErrStale, alter(0, 1, 3, 3, 1), alter(0, 1, 2, 2, 1), alter(0, 1, 3, 2, 1), alter(0, 1, 2, 4, 1))
	// That of another partition.
	refuses(t, m, api.ErrStale, alter(0, 3, 1, 1, 3), alter(1, 1, 2, 3, 1))
	run(t, m, alter(0, 1, 2, 3, 0, 1))
	// What was taken once is stale.
	refuses(t, m, api.ErrStale, alter(0, 1, 2, 3, 0, 1))
}

func TestP10_2_AlterWhileNobodyLeads(t *testing.T) {
	m := controller(t, 2, 1, 1)
	refuses(t, m, api.ErrStale, alter(0, 0, 0, 0, 0), alter(0, 1, 0, 0, 0, 1))
	refuses(t, m, api.ErrArg, alter(0, -1, 0, 0, 0), alter(0, -1, 0, 0, 0, 1), alter(0, -1, 0, 0, -1, 0))
	run(t, m, elect(0, 0), fence(0), register(0))
	refuses(t, m, api.ErrStale, alter(0, 0, 2, 2, 0), alter(0, 1, 2, 2, 1), alter(0, 0, 1, 1, 0, 1))
	refuses(t, m, api.ErrArg, alter(0, -1, 2, 2, 1))
}

func TestP10_2_AlterWithOneThatDoesNotLive(t *testing.T) {
	m := controller(t, 4, 1, 1)
	run(t, m, elect(0, 1), fence(3), fence(0))
	wantView(t, m, 0, 1, 1, 3, 1, 2)
	refuses(t, m, api.ErrDead, alter(0, 1, 1, 3, 0, 1), alter(0, 1, 1, 3, 1, 2, 3), alter(0, 1, 1, 3, 1, 3), alter(0, 1, 1, 3, 0, 1, 2, 3))
	run(t, m, register(3), alter(0, 1, 1, 3, 1, 2, 3))
	wantView(t, m, 0, 1, 1, 4, 1, 2, 3)
}

func TestP10_2_AlterAtTheEnd(t *testing.T) {
	m := controller(t, 2, 1, 1)
	run(t, m, elect(0, 0))
	atEnd(m, 0, 1, api.MaxNumber-1)
	run(t, m, alter(0, 0, 1, api.MaxNumber-1, 0))
	wantView(t, m, 0, 0, 1, api.MaxNumber, 0)
	refuses(t, m, api.ErrEnd, alter(0, 0, 1, api.MaxNumber, 0), alter(0, 0, 1, api.MaxNumber, 0, 1))
}

func TestP10_2_ListsThatMayNotBe(t *testing.T) {
	huge := make([]int, 1<<20)
	rises := make([]int, 1<<20)
	for i := range rises {
		rises[i] = i
	}
	m := controller(t, 3, 1, 1)
	run(t, m, elect(0, 1))
	lists := [][]int{nil, {}, {1, 0}, {0, 2, 1}, {2, 1, 0}, {1, 1}, {0, 1, 1}, {0, 0, 1}, {-1, 1}, {1, -1}, {1, 3}, {0, 1, 2, 3}, {1, 2, 4}, {0, 1, 2, 2}, huge, rises}
	for _, none := range outside(3) {
		lists = append(lists, []int{none}, []int{1, none}, []int{none, 1}, []int{0, 1, none})
	}
	// Its leader is not in it.
	lists = append(lists, []int{0}, []int{2}, []int{0, 2})
	for _, l := range lists {
		refuses(t, m, api.ErrArg, alter(0, 1, 1, 1, l...))
	}
	for _, none := range outside(3) {
		refuses(t, m, api.ErrArg, alter(0, none, 1, 1, 0, 1, 2), alter(0, none, 1, 1, none), alter(0, none, 1, 1, 1))
	}
	wantView(t, m, 0, 1, 1, 1, 0, 1, 2)
}

func TestP10_2_PartitionsThatAreNone(t *testing.T) {
	for parts := 1; parts <= 4; parts++ {
		m := controller(t, 2, parts, 1)
		run(t, m, elect(0, 0))
		for _, none := range outside(parts) {
			refuses(t, m, api.ErrArg, elect(none, 0), unclean(none, 0), alter(none, 0, 1, 1, 0), alter(none, 0, 0, 0, 0, 1))
		}
	}
}

func TestP10_2_SeveralErrorsAtOnce(t *testing.T) {
	m := controller(t, 3, 1, 1)
	run(t, m, elect(0, 0), alter(0, 0, 1, 1, 0), fence(2))
	atEnd(m, 0, api.MaxNumber, api.MaxNumber)
	const last = api.MaxNumber
	// It does not live, is not in step, and a number is at its end.
	refuses(t, m, api.ErrArg, elect(1, 2), elect(0, 3), elect(-1, -1), unclean(1, 2))
	refuses(t, m, api.ErrDead, elect(0, 2), unclean(0, 2))
	refuses(t, m, api.ErrSync, elect(0, 1))
	refuses(t, m, api.ErrEnd, unclean(0, 1), elect(0, 0))
	refuses(t, m, api.ErrArg, fence(3), fence(-1))
	refuses(t, m, api.ErrArg, alter(1, 0, 1, 1, 0, 2), alter(0, 0, 1, 1), alter(0, 0, 1, 1, 2), alter(0, 0, 1, 1, 2, 0), alter(0, 0, last, last, 2))
	refuses(t, m, api.ErrStale, alter(0, 0, 1, last, 0, 2), alter(0, 0, last, 1, 0, 2), alter(0, 2, last, last, 0, 2))
	refuses(t, m, api.ErrDead, alter(0, 0, last, last, 0, 2), alter(0, 0, last, last, 0, 1, 2))
	refuses(t, m, api.ErrEnd, alter(0, 0, last, last, 0, 1), alter(0, 0, last, last, 0))
}

// TestP10_2_AListThatIsHandedIn: it is neither changed nor kept, nor is the spare room behind it.
func TestP10_2_AListThatIsHandedIn(t *testing.T) {
	m := controller(t, 4, 1, 1)
	run(t, m, elect(0, 1))
	room := []int{0, 1, 3, 7, 8, 9}
	isr := room[:3]
	if err := m.Alter(0, 1, 1, 1, isr); err != api.OK {
		t.Fatal(err)
	}
	run(t, m, fence(0))
	if !slices.Equal(room, []int{0, 1, 3, 7, 8, 9}) {
		t.Error(room)
	}
	wantView(t, m, 0, 1, 1, 3, 1, 3)
	if err := m.Alter(0, 1, 1, 3, room[1:3]); err != api.OK {
		t.Fatal(err)
	}
	room[1], room[2] = 5, 5
	wantView(t, m, 0, 1, 1, 4, 1, 3)
}
