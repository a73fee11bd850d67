package meta

import (
	"math"
	"testing"

	"waystation/api"
)

func TestP10_3_Examples(t *testing.T) {
	m := controller(t, 3, 1, 1)
	answers(t, m, 1, begin(0))
	answers(t, m, 1, add(0, 1, 0))
	if n, err := m.Init(0); n != 0 || err != api.ErrBusy {
		t.Error(n, err)
	}
	run(t, m, marked(0, 1, 0))
	answers(t, m, 3, begin(0))
}

// inState is a controller of 2 IDs whose ID 0 has Session 1 and, from its transaction of Num 1, the Offset 5, and is in a state. Partitions 1 and 3 are not marked yet.
func inState(t *testing.T, state api.TxnState) *Meta {
	t.Helper()
	m := controller(t, 2, 4, 2)
	run(t, m, begin(0), add(0, 1, 2), commit(0, 1, 5), marked(0, 1, 2))
	if state != api.TxnNone {
		run(t, m, add(0, 1, 3), add(0, 1, 1))
	}
	switch state {
	case api.TxnNone:
		wantWriting(t, m, 0, 1, 1, api.TxnNone, 5, 0)
	case api.TxnOpen:
		wantWriting(t, m, 0, 1, 2, api.TxnOpen, 5, 0, 1, 3)
	case api.TxnCommit:
		run(t, m, commit(0, 1, 7))
		wantWriting(t, m, 0, 1, 2, api.TxnCommit, 5, 7, 1, 3)
	case api.TxnAbort:
		run(t, m, abort(0, 1, 7))
		wantWriting(t, m, 0, 1, 2, api.TxnAbort, 5, 0, 1, 3)
	}
	return m
}

func TestP10_3_InitInEachState(t *testing.T) {
	m := inState(t, api.TxnNone)
	answers(t, m, 2, begin(0))
	wantWriting(t, m, 0, 2, 1, api.TxnNone, 5, 0)
	answers(t, m, 3, begin(0))
	wantWriting(t, m, 1, 0, 0, api.TxnNone, 0, 0)
	for _, state := range []api.TxnState{api.TxnCommit, api.TxnAbort} {
		refuses(t, inState(t, state), api.ErrBusy, begin(0), begin(0))
	}
	m = inState(t, api.TxnOpen)
	if n, err := m.Init(0); n != 0 || err != api.ErrBusy {
		t.Error(n, err)
	}
	wantWriting(t, m, 0, 2, 2, api.TxnAbort, 5, 0, 1, 3)
	wantWriting(t, m, 1, 0, 0, api.TxnNone, 0, 0)
	refuses(t, m, api.ErrBusy, begin(0))
	// The elder session is out.
	refuses(t, m, api.ErrStale, add(0, 1, 0), commit(0, 1, 7), abort(0, 1, 7))
	run(t, m, marked(0, 2, 1))
	refuses(t, m, api.ErrBusy, begin(0))
	run(t, m, marked(0, 2, 3))
	wantWriting(t, m, 0, 2, 2, api.TxnNone, 5, 0)
	answers(t, m, 3, begin(0))
	answers(t, m, 1, begin(1))
}

func TestP10_3_InitAtTheEnd(t *testing.T) {
	for _, state := range []api.TxnState{api.TxnNone, api.TxnOpen} {
		m := inState(t, state)
		m.writers[0].Session = api.MaxNumber
		refuses(t, m, api.ErrEnd, begin(0))
	}
	for _, state := range []api.TxnState{api.TxnCommit, api.TxnAbort} {
		m := inState(t, state)
		m.writers[0].Session = api.MaxNumber
		refuses(t, m, api.ErrBusy, begin(0))
	}
	m := inState(t, api.TxnNone)
	m.writers[0].Session = api.MaxNumber - 1
	answers(t, m, api.MaxNumber, begin(0))
	refuses(t, m, api.ErrEnd, begin(0))
	answers(t, m, 2, add(0, api.MaxNumber, 0))
	m = inState(t, api.TxnOpen)
	m.writers[0].Session = api.MaxNumber - 1
	if n, err := m.Init(0); n != 0 || err != api.ErrBusy {
		t.Error(n, err)
	}
	wantWriting(t, m, 0, api.MaxNumber, 2, api.TxnAbort, 5, 0, 1, 3)
}

func TestP10_3_AddInEachState(t *testing.T) {
	m := inState(t, api.TxnNone)
	answers(t, m, 2, add(0, 1, 0))
	wantWriting(t, m, 0, 1, 2, api.TxnOpen, 5, 0, 0)
	m = inState(t, api.TxnOpen)
	answers(t, m, 2, add(0, 1, 2))
	wantWriting(t, m, 0, 1, 2, api.TxnOpen, 5, 0, 1, 2, 3)
	wantWriting(t, m, 1, 0, 0, api.TxnNone, 0, 0)
	// What is there already.
	for part := 1; part < 4; part++ {
		answers(t, m, 2, add(0, 1, part))
		wantWriting(t, m, 0, 1, 2, api.TxnOpen, 5, 0, 1, 2, 3)
	}
	for _, state := range []api.TxnState{api.TxnCommit, api.TxnAbort} {
		refuses(t, inState(t, state), api.ErrBusy, add(0, 1, 0), add(0, 1, 1), add(0, 1, 3))
	}
}

func TestP10_3_AddInAnyOrder(t *testing.T) {
	for order := range 4 * 4 * 4 * 4 {
		m := controller(t, 1, 4, 4)
		for _, part := range []int{order % 4, order / 4 % 4, order / 16 % 4, order / 64} {
			answers(t, m, 1, add(3, 0, part))
		}
		var want []int
		for part := range 4 {
			if part == order%4 || part == order/4%4 || part == order/16%4 || part == order/64 {
				want = append(want, part)
			}
		}
		wantWriting(t, m, 3, 0, 1, api.TxnOpen, 0, 0, want...)
	}
}

func TestP10_3_AddAtTheEnd(t *testing.T) {
	m := inState(t, api.TxnNone)
	m.writers[0].Num = api.MaxNumber
	refuses(t, m, api.ErrEnd, add(0, 1, 0), add(0, 1, 2))
	m.writers[0].Num = api.MaxNumber - 1
	answers(t, m, api.MaxNumber, add(0, 1, 0))
	// It is not a new one.
	answers(t, m, api.MaxNumber, add(0, 1, 2))
	wantWriting(t, m, 0, 1, api.MaxNumber, api.TxnOpen, 5, 0, 0, 2)
	run(t, m, abort(0, 1, 5))
	refuses(t, m, api.ErrBusy, add(0, 1, 0))
	run(t, m, marked(0, api.MaxNumber, 0), marked(0, api.MaxNumber, 2))
	refuses(t, m, api.ErrEnd, add(0, 1, 0))
}

func TestP10_3_EndOfAnOpenOne(t *testing.T) {
	for _, offset := range []int64{5, 6, api.MaxNumber} {
		m := inState(t, api.TxnOpen)
		run(t, m, commit(0, 1, offset))
		wantWriting(t, m, 0, 1, 2, api.TxnCommit, 5, offset, 1, 3)
		m = inState(t, api.TxnOpen)
		run(t, m, abort(0, 1, offset))
		wantWriting(t, m, 0, 1, 2, api.TxnAbort, 5, 0, 1, 3)
		wantWriting(t, m, 1, 0, 0, api.TxnNone, 0, 0)
	}
}

func TestP10_3_EndWhereNoneIsOpen(t *testing.T) {
	for _, offset := range []int64{5, 6, api.MaxNumber} {
		m := inState(t, api.TxnNone)
		run(t, m, commit(0, 1, offset))
		wantWriting(t, m, 0, 1, 1, api.TxnNone, offset, 0)
		run(t, m, abort(0, 1, offset))
		wantWriting(t, m, 0, 1, 1, api.TxnNone, offset, 0)
		m = inState(t, api.TxnNone)
		run(t, m, abort(0, 1, offset))
		wantWriting(t, m, 0, 1, 1, api.TxnNone, 5, 0)
	}
	m := controller(t, 1, 1, 1)
	run(t, m, commit(0, 0, 0), abort(0, 0, 0))
	wantWriting(t, m, 0, 0, 0, api.TxnNone, 0, 0)
	run(t, m, begin(0), commit(0, 1, 1))
	wantWriting(t, m, 0, 1, 0, api.TxnNone, 1, 0)
}

func TestP10_3_EndOfOneThatIsBeingEnded(t *testing.T) {
	for _, state := range []api.TxnState{api.TxnCommit, api.TxnAbort} {
		for _, offset := range []int64{5, 6, 7, 8, api.MaxNumber} {
			refuses(t, inState(t, state), api.ErrBusy, commit(0, 1, offset), abort(0, 1, offset))
		}
	}
}

func TestP10_3_OffsetsThatMayNotBe(t *testing.T) {
	for _, state := range []api.TxnState{api.TxnNone, api.TxnOpen, api.TxnCommit, api.TxnAbort} {
		m := inState(t, state)
		for _, offset := range []int64{4, 0, -1, math.MinInt32, math.MinInt64, api.MaxNumber + 1, 1 << 32, 1<<32 + 6, math.MaxInt64} {
			refuses(t, m, api.ErrArg, commit(0, 1, offset), abort(0, 1, offset), commit(0, 0, offset), abort(0, 2, offset))
		}
	}
	m := controller(t, 1, 1, 1)
	refuses(t, m, api.ErrArg, commit(0, 0, -1), abort(0, 0, -1), commit(0, 0, api.MaxNumber+1), abort(0, 0, api.MaxNumber+1))
}

func TestP10_3_Marked(t *testing.T) {
	m := inState(t, api.TxnCommit)
	run(t, m, marked(0, 2, 3))
	wantWriting(t, m, 0, 1, 2, api.TxnCommit, 5, 7, 1)
	refuses(t, m, api.ErrStale, marked(0, 2, 3))
	refuses(t, m, api.ErrBusy, begin(0), add(0, 1, 3), commit(0, 1, 7))
	run(t, m, marked(0, 2, 1))
	wantWriting(t, m, 0, 1, 2, api.TxnNone, 7, 0)
	refuses(t, m, api.ErrStale, marked(0, 2, 1))
	answers(t, m, 3, add(0, 1, 0))
	m = inState(t, api.TxnAbort)
	run(t, m, marked(0, 2, 1))
	wantWriting(t, m, 0, 1, 2, api.TxnAbort, 5, 0, 3)
	run(t, m, marked(0, 2, 3))
	wantWriting(t, m, 0, 1, 2, api.TxnNone, 5, 0)
	// The committed offset as Next.
	run(t, m, add(0, 1, 0), commit(0, 1, 5), marked(0, 3, 0))
	wantWriting(t, m, 0, 1, 3, api.TxnNone, 5, 0)
}

func TestP10_3_MarkedThatIsStale(t *testing.T) {
	for _, state := range []api.TxnState{api.TxnCommit, api.TxnAbort} {
		m := inState(t, state)
		refuses(t, m, api.ErrStale, marked(0, 2, 0), marked(0, 2, 2), marked(1, 2, 1), marked(1, 0, 1))
		for _, num := range append(wild(), 0, 1, 3) {
			refuses(t, m, api.ErrStale, marked(0, num, 1), marked(0, num, 3))
		}
	}
	refuses(t, inState(t, api.TxnOpen), api.ErrStale, marked(0, 2, 1), marked(0, 2, 3), marked(0, 1, 2))
	refuses(t, inState(t, api.TxnNone), api.ErrStale, marked(0, 1, 2), marked(0, 1, 1), marked(0, 2, 1), marked(0, 0, 0))
	refuses(t, controller(t, 1, 1, 1), api.ErrStale, marked(0, 0, 0), marked(0, 1, 0))
}

func TestP10_3_SessionsThatAreStale(t *testing.T) {
	for _, state := range []api.TxnState{api.TxnNone, api.TxnOpen, api.TxnCommit, api.TxnAbort} {
		m := inState(t, state)
		for _, session := range append(wild(), 0, 2, 3) {
			refuses(t, m, api.ErrStale, add(0, session, 0), add(0, session, 1), commit(0, session, 5), abort(0, session, 5))
		}
		// The other ID's is 0.
		refuses(t, m, api.ErrStale, add(1, 1, 0), commit(1, 1, 5), abort(1, 1, 5))
	}
}

// TestP10_3_TheSessionAtFirst: it is 0, so that one counts.
func TestP10_3_TheSessionAtFirst(t *testing.T) {
	m := controller(t, 1, 1, 1)
	refuses(t, m, api.ErrStale, add(0, 1, 0), add(0, -1, 0), commit(0, 1, 0))
	answers(t, m, 1, add(0, 0, 0))
	run(t, m, commit(0, 0, 3), marked(0, 1, 0))
	wantWriting(t, m, 0, 0, 1, api.TxnNone, 3, 0)
	answers(t, m, 1, begin(0))
	refuses(t, m, api.ErrStale, add(0, 0, 0))
}

func TestP10_3_IDsAndPartitionsThatAreNone(t *testing.T) {
	for n := 1; n <= 4; n++ {
		m := controller(t, 1, n, 5-n)
		for id := range 5 - n {
			run(t, m, add(id, 0, 0), commit(id, 0, 0))
		}
		for _, none := range outside(5 - n) {
			refuses(t, m, api.ErrArg, begin(none), add(none, 0, 0), commit(none, 0, 0), abort(none, 0, 0), marked(none, 1, 0))
		}
		for _, none := range outside(n) {
			refuses(t, m, api.ErrArg, add(0, 0, none), marked(0, 1, none))
		}
	}
}

func TestP10_3_SeveralErrorsAtOnce(t *testing.T) {
	m := inState(t, api.TxnCommit)
	m.writers[0].Session, m.writers[0].Num = api.MaxNumber, api.MaxNumber
	refuses(t, m, api.ErrArg, add(0, 9, 4), add(2, 9, 0), marked(0, 9, 4), marked(2, 9, 0), commit(0, 9, 4), abort(2, 9, -1))
	refuses(t, m, api.ErrStale, add(0, 9, 0), marked(0, 9, 0), commit(0, 9, 5), abort(0, 9, 5))
	refuses(t, m, api.ErrBusy, add(0, api.MaxNumber, 0), begin(0), commit(0, api.MaxNumber, 5), abort(0, api.MaxNumber, 5))
	m = inState(t, api.TxnNone)
	m.writers[0].Num = api.MaxNumber
	refuses(t, m, api.ErrArg, add(0, 9, 4), add(-1, 1, 0))
	refuses(t, m, api.ErrStale, add(0, 9, 0))
	refuses(t, m, api.ErrEnd, add(0, 1, 0))
}

// TestP10_3_IDsAreApart: all of them at once, in any state.
func TestP10_3_IDsAreApart(t *testing.T) {
	m := controller(t, 1, 4, 4)
	for id := range 4 {
		run(t, m, begin(id), add(id, 1, id), add(id, 1, (id+1)%4))
	}
	run(t, m, commit(1, 1, 10), abort(2, 1, 10), commit(3, 1, 30), marked(3, 1, 0), marked(3, 1, 3))
	wantWriting(t, m, 0, 1, 1, api.TxnOpen, 0, 0, 0, 1)
	wantWriting(t, m, 1, 1, 1, api.TxnCommit, 0, 10, 1, 2)
	wantWriting(t, m, 2, 1, 1, api.TxnAbort, 0, 0, 2, 3)
	wantWriting(t, m, 3, 1, 1, api.TxnNone, 30, 0)
}
