package visible

import (
	"math"
	"slices"
	"testing"

	"waystation/api"
)

// nones are readers that are not there.
func nones() []*Reader { return []*Reader{nil, {}, new(Reader)} }

// reading is a reader to whom a good log was pushed.
func reading(t *testing.T, l ...api.Entry) *Reader {
	t.Helper()
	r := New()
	if r == nil {
		t.Fatal("no reader")
	}
	for _, e := range l {
		wantPush(t, r, e, api.OK)
	}
	return r
}

func wantPush(t *testing.T, r *Reader, e api.Entry, want api.Errno) {
	t.Helper()
	if err := r.Push(e); err != want {
		t.Errorf("Push(%s): %v, want %v", text(e), err, want)
	}
}

func wantTo(t *testing.T, r *Reader, n int, want ...int) {
	t.Helper()
	if got, err := r.To(n); !slices.Equal(got, want) || err != api.OK {
		t.Errorf("To(%d): %v, %v, want %v", n, got, err, want)
	}
}

func refusesTo(t *testing.T, r *Reader, want api.Errno, lengths ...int) {
	t.Helper()
	for _, n := range lengths {
		if got, err := r.To(n); got != nil || err != want {
			t.Errorf("To(%d): %v, %v, want %v", n, got, err, want)
		}
	}
}

// stands asks for all that a reader tells without a change.
func stands(t *testing.T, r *Reader, n, at int, told ...int) {
	t.Helper()
	if r.Len() != n || r.At() != at || !slices.Equal(r.Told(), told) {
		t.Errorf("Len %d, At %d, Told %v, want %d, %d, %v", r.Len(), r.At(), r.Told(), n, at, told)
	}
}

// alike holds a reader against the plain one.
func alike(t *testing.T, r *Reader, p plainReader) {
	t.Helper()
	stands(t, r, len(p.log), p.at, p.told...)
}

func TestP9_2_Examples(t *testing.T) {
	r := reading(t, n(), d(1), n(), c(1), n())
	wantTo(t, r, 1, 0)
	wantTo(t, r, 4, 1, 2)
	refusesTo(t, r, api.ErrArg, 2)
	wantPush(t, r, d(1), api.ErrGood)
	stands(t, r, 5, 4, 0, 1, 2)
	wantTo(t, r, 5, 4)
	stands(t, r, 5, 5, 0, 1, 2, 4)
}

func TestP9_2_AReaderOfNoEntries(t *testing.T) {
	r := New()
	stands(t, r, 0, 0)
	wantTo(t, r, 0)
	refusesTo(t, r, api.ErrRange, 1, -1, math.MaxInt, math.MinInt)
	stands(t, r, 0, 0)
	wantPush(t, r, n(), api.OK)
	stands(t, r, 1, 0)
	stands(t, New(), 0, 0)
}

func TestP9_2_EntriesAtTheEdges(t *testing.T) {
	for _, e := range edgeEntries() {
		r := reading(t, e)
		stands(t, r, 1, 0)
		wantTo(t, r, 1, plainView(list(e), 1)...)
	}
}

func TestP9_2_EntriesThatMayNotBe(t *testing.T) {
	r := reading(t, n(), d(1), c(1))
	wantTo(t, r, 1, 0)
	for _, e := range wrongEntries() {
		if plainEntry(e) {
			t.Errorf("%v may be, says the plain way", e)
		}
		wantPush(t, r, e, api.ErrArg)
		wantPush(t, New(), e, api.ErrArg)
	}
	stands(t, r, 3, 1, 0)
	wantTo(t, r, 3, 1)
}

func TestP9_2_EpochsThatFall(t *testing.T) {
	r := reading(t, in(2, n()), in(5, d(1)))
	for epoch := int64(1); epoch < 5; epoch++ {
		for _, e := range list(n(), d(1), c(1), by(3, a(7))) {
			wantPush(t, r, in(epoch, e), api.ErrEpoch)
		}
	}
	stands(t, r, 2, 0)
	wantPush(t, r, in(5, c(1)), api.OK)
	wantPush(t, r, in(6, n()), api.OK)
	wantPush(t, r, in(5, n()), api.ErrEpoch)
	wantTo(t, r, 4, 0, 1, 3)
}

func TestP9_2_EntriesBehindAMarkerOfTheirTransaction(t *testing.T) {
	for _, marker := range []func(int64) api.Entry{c, a} {
		for _, l := range [][]api.Entry{list(marker(3)), list(d(3), marker(3)), list(d(3), n(), d(3), marker(3))} {
			for _, between := range [][]api.Entry{nil, list(n()), list(d(4), c(4), d(2), by(1, d(3)), by(2, a(3)), in(2, n()))} {
				r := reading(t, joined(l, between)...)
				n := r.Len()
				for _, e := range list(d(3), as(1, d(3)), worth(-1, d(3)), c(3), a(3)) {
					wantPush(t, r, in(2, e), api.ErrGood)
				}
				stands(t, r, n, 0)
				// What was looked at does not matter.
				r.To(n)
				wantPush(t, r, in(2, d(3)), api.ErrGood)
				wantPush(t, r, in(2, marker(3)), api.ErrGood)
				wantPush(t, r, in(2, d(5)), api.OK)
				wantPush(t, r, in(2, by(3, d(3))), api.OK)
			}
		}
	}
}

// TestP9_2_WhatLayer8sCheckRefuses: it is refused only if its transaction has a marker.
func TestP9_2_WhatLayer8sCheckRefuses(t *testing.T) {
	l := list(as(5, d(4)), as(5, d(4)), d(2), c(3), d(1), as(9, d(1)), c(1), a(2), d(6), c(5), c(4))
	r := reading(t, l...)
	wantTo(t, r, len(l), plainView(l, len(l))...)
	wantPush(t, r, d(3), api.ErrGood)
	wantPush(t, r, c(6), api.OK)
	wantTo(t, r, 12, 8)
	stands(t, r, 12, 12, 0, 1, 4, 5, 8)
}

func TestP9_2_SeveralErrorsAtOnce(t *testing.T) {
	r := reading(t, in(2, d(1)), in(2, c(1)), in(2, n()))
	wantPush(t, r, in(1, by(4, d(1))), api.ErrArg)
	wantPush(t, r, as(-1, in(2, d(1))), api.ErrArg)
	wantPush(t, r, as(1, in(1, c(1))), api.ErrArg)
	wantPush(t, r, in(0, d(1)), api.ErrArg)
	wantPush(t, r, in(1, d(1)), api.ErrEpoch)
	wantPush(t, r, in(1, c(1)), api.ErrEpoch)
	wantPush(t, r, in(2, c(1)), api.ErrGood)
	wantTo(t, r, 3, 0, 2)
	// A length below 0 is less than the last one too.
	refusesTo(t, r, api.ErrRange, -1, math.MinInt, 4)
	refusesTo(t, r, api.ErrArg, 0, 1, 2)
	full := reading(t, joined(list(in(2, d(1)), in(2, c(1))), many(api.MaxLog-2, in(2, n())))...)
	wantPush(t, full, api.Entry{}, api.ErrArg)
	wantPush(t, full, worth(1, in(2, c(1))), api.ErrArg)
	wantPush(t, full, in(1, n()), api.ErrLong)
	wantPush(t, full, in(1, d(1)), api.ErrLong)
	wantPush(t, full, in(2, d(1)), api.ErrLong)
	wantPush(t, full, in(2, a(1)), api.ErrLong)
	stands(t, full, api.MaxLog, 0)
}

func TestP9_2_Lengths(t *testing.T) {
	r := reading(t, n(), d(1), c(1), n())
	wantTo(t, r, 0)
	wantTo(t, r, 0)
	wantTo(t, r, 2, 0)
	wantTo(t, r, 2)
	stands(t, r, 4, 2, 0)
	refusesTo(t, r, api.ErrArg, 0, 1)
	refusesTo(t, r, api.ErrRange, -1, 5, math.MinInt, 1<<32, 1<<32+3, math.MaxInt)
	stands(t, r, 4, 2, 0)
	wantTo(t, r, 2)
	wantTo(t, r, 4, 1, 3)
	wantTo(t, r, 4)
	refusesTo(t, r, api.ErrArg, 3, 0)
	stands(t, r, 4, 4, 0, 1, 3)
	// At once the whole.
	r = reading(t, n(), d(1), c(1), n())
	wantTo(t, r, 4, 0, 1, 3)
	wantTo(t, r, 4)
}

// TestP9_2_ALengthThatWasRefused: it was not the last one that was asked for.
func TestP9_2_ALengthThatWasRefused(t *testing.T) {
	r := reading(t, n(), n(), n())
	refusesTo(t, r, api.ErrRange, 4)
	wantTo(t, r, 1, 0)
	refusesTo(t, r, api.ErrRange, 4)
	wantTo(t, r, 2, 1)
	refusesTo(t, r, api.ErrArg, 1)
	wantTo(t, r, 3, 2)
}

func TestP9_2_EntriesThatArePushedBehindALook(t *testing.T) {
	r := reading(t, n(), d(1))
	wantTo(t, r, 2, 0)
	wantPush(t, r, n(), api.OK)
	stands(t, r, 3, 2, 0)
	wantTo(t, r, 2)
	wantTo(t, r, 3)
	wantPush(t, r, c(1), api.OK)
	wantTo(t, r, 3)
	wantTo(t, r, 4, 1, 2)
	wantPush(t, r, by(1, d(1)), api.OK)
	wantPush(t, r, by(1, a(1)), api.OK)
	wantPush(t, r, n(), api.OK)
	wantTo(t, r, 5)
	wantTo(t, r, 7, 6)
	stands(t, r, 7, 7, 0, 1, 2, 6)
}

// TestP9_2_MarkersBehindTheLength: they are there already, but it may not look at them yet.
func TestP9_2_MarkersBehindTheLength(t *testing.T) {
	l := list(d(1), by(1, d(1)), d(1), a(1), n(), by(1, c(1)), d(2), n(), c(2))
	r := reading(t, l...)
	for n, want := range [][]int{{}, {}, {}, {}, {}, {}, {1, 4}, {}, {}, {6, 7}} {
		wantTo(t, r, n, want...)
		stands(t, r, len(l), n, plainView(l, n)...)
	}
	// One whose marker stands behind what is stable is told of ahead of that.
	r = reading(t, d(1), by(1, d(1)), d(1), c(1), by(1, c(1)))
	wantTo(t, r, 3)
	wantTo(t, r, 4, 0)
	wantTo(t, r, 5, 1, 2)
}

func TestP9_2_WhatIsRefusedChangesNothing(t *testing.T) {
	r := reading(t, n(), in(2, d(1)), in(2, c(1)), in(2, n()))
	wantTo(t, r, 3, 0, 1)
	for range 3 {
		wantPush(t, r, in(2, d(1)), api.ErrGood)
		wantPush(t, r, in(2, a(1)), api.ErrGood)
		wantPush(t, r, n(), api.ErrEpoch)
		wantPush(t, r, by(9, d(1)), api.ErrArg)
		wantPush(t, r, in(2, by(1, as(1, c(1)))), api.ErrArg)
		refusesTo(t, r, api.ErrArg, 2, 0)
		refusesTo(t, r, api.ErrRange, 5, -1)
		stands(t, r, 4, 3, 0, 1)
	}
	// A marker that was refused ended nothing.
	wantPush(t, r, in(2, by(1, d(1))), api.OK)
	wantPush(t, r, in(1, by(1, c(1))), api.ErrEpoch)
	wantTo(t, r, 5, 3)
	wantPush(t, r, in(2, by(1, d(1))), api.OK)
	wantTo(t, r, 6)
	wantPush(t, r, in(2, by(1, c(1))), api.OK)
	wantTo(t, r, 7, 4, 5)
}

func TestP9_2_MaxLogEntries(t *testing.T) {
	p, r := plainReader{}, New()
	var view []int
	for at := range api.MaxLog {
		e := by(at%3, d(int64(at/8)+1))
		switch at % 8 {
		case 3, 4:
			e = n()
		case 5, 6, 7:
			e = by(at%3, c(int64(at/8)+1))
		}
		if plainEnded(p.log[max(0, at-8):], e) {
			e = n()
		}
		p.log = append(p.log, e)
		wantPush(t, r, e, api.OK)
		got, err := r.To(at + 1)
		if err != api.OK {
			t.Fatal(at, err)
		}
		view = append(view, got...)
	}
	if want := plainView(p.log, api.MaxLog); !slices.Equal(view, want) || len(want) < api.MaxLog/2 {
		t.Error(len(view), len(want))
	}
	for _, e := range list(n(), by(3, d(1)), c(1<<20)) {
		wantPush(t, r, e, api.ErrLong)
	}
	refusesTo(t, r, api.ErrRange, api.MaxLog+1)
	stands(t, r, api.MaxLog, api.MaxLog, view...)
	// At once.
	r = reading(t, p.log...)
	wantTo(t, r, api.MaxLog, view...)
}

func TestP9_2_P9_3_NoReader(t *testing.T) {
	for i, no := range nones() {
		for _, e := range list(n(), d(1), c(1), api.Entry{}, by(9, d(1))) {
			if err := no.Push(e); err != api.ErrNil {
				t.Error(i, err)
			}
		}
		refusesTo(t, no, api.ErrNil, 0, 1, -1, math.MinInt, math.MaxInt)
		if no.Len() != 0 || no.At() != 0 || no.Told() != nil || no.Copy() != nil {
			t.Error(i, no.Len(), no.At(), no.Told(), no.Copy())
		}
	}
	if err := nones()[0].Copy().Push(n()); err != api.ErrNil {
		t.Error(err)
	}
}

func TestP9_2_P9_3_WhatIsToldIsNewMemory(t *testing.T) {
	r := reading(t, n(), n(), n(), n(), n())
	first, _ := r.To(3)
	told := r.Told()
	for i := range told {
		first[i], told[i] = 7, 8
	}
	_ = append(first[:0], 9, 9, 9, 9, 9, 9)
	_ = append(told[:0], 9, 9, 9, 9, 9, 9)
	stands(t, r, 5, 3, 0, 1, 2)
	first, told = append(r.Told(), 77), append(r.Told(), 66)
	then, _ := r.To(4)
	then = append(then, 55)
	wantTo(t, r, 5, 4)
	if !slices.Equal(first, []int{0, 1, 2, 77}) || !slices.Equal(told, []int{0, 1, 2, 66}) || !slices.Equal(then, []int{3, 55}) {
		t.Error(first, told, then)
	}
	stands(t, r, 5, 5, 0, 1, 2, 3, 4)
}

func TestP9_3_LenAtTold(t *testing.T) {
	r := reading(t, d(1), n())
	stands(t, r, 2, 0)
	wantTo(t, r, 2)
	stands(t, r, 2, 2)
	wantPush(t, r, a(1), api.OK)
	stands(t, r, 3, 2)
	wantTo(t, r, 3, 1)
	stands(t, r, 3, 3, 1)
	stands(t, r, 3, 3, 1)
}

func TestP9_3_ACopyGoesOnApart(t *testing.T) {
	r := reading(t, n(), d(1), n())
	wantTo(t, r, 2, 0)
	other := r.Copy()
	if other == nil || other == r {
		t.Fatal("no copy")
	}
	stands(t, other, 3, 2, 0)
	// The copy goes on.
	wantPush(t, other, c(1), api.OK)
	wantPush(t, other, by(1, d(1)), api.OK)
	wantTo(t, other, 5, 1, 2)
	stands(t, r, 3, 2, 0)
	wantPush(t, other, d(1), api.ErrGood)
	// What it was copied from goes on, otherwise.
	wantPush(t, r, d(1), api.OK)
	wantPush(t, r, a(1), api.OK)
	wantTo(t, r, 3)
	wantTo(t, r, 5, 2)
	stands(t, r, 5, 5, 0, 2)
	stands(t, other, 5, 5, 0, 1, 2)
	wantPush(t, r, by(1, c(1)), api.OK)
	wantPush(t, other, by(1, d(1)), api.OK)
	wantPush(t, other, by(1, c(1)), api.OK)
	wantTo(t, other, 7, 4, 5)
	wantTo(t, r, 6)
	stands(t, r, 6, 6, 0, 2)
	stands(t, other, 7, 7, 0, 1, 2, 4, 5)
}

func TestP9_3_CopiesOfAll(t *testing.T) {
	for _, l := range [][]api.Entry{nil, list(n()), list(d(1), c(1)), list(c(1), by(1, d(1)), n()), many(api.MaxLog, n())} {
		r := reading(t, l...)
		stands(t, r.Copy(), len(l), 0)
		wantTo(t, r.Copy(), len(l), plainView(l, len(l))...)
		stands(t, r, len(l), 0)
		wantTo(t, r, len(l), plainView(l, len(l))...)
		other := r.Copy().Copy()
		stands(t, other, len(l), len(l), plainView(l, len(l))...)
		refusesTo(t, other, api.ErrRange, len(l)+1)
	}
}

// TestP9_3_ACopyIsToldInRoomOfItsOwn: at some of these lengths there is spare room behind what was told.
func TestP9_3_ACopyIsToldInRoomOfItsOwn(t *testing.T) {
	for most := range 20 {
		r := New()
		for at := range most {
			wantPush(t, r, n(), api.OK)
			wantTo(t, r, at+1, at)
		}
		other := r.Copy()
		wantPush(t, r, n(), api.OK)
		wantPush(t, other, c(1), api.OK)
		wantPush(t, other, n(), api.OK)
		wantTo(t, r, most+1, most)
		wantTo(t, other, most+2, most+1)
		stands(t, r, most+1, most+1, upTo(0, most)...)
		stands(t, other, most+2, most+2, append(upTo(0, most-1), most+1)...)
	}
}

// shortLives goes through all lives of so many steps: pushes of some letters, and looks, of what may not be too.
func shortLives(t *testing.T, r *Reader, p plainReader, letters []api.Entry, steps int) int {
	alike(t, r, p)
	if t.Failed() {
		t.FailNow()
	}
	if steps == 0 {
		return 1
	}
	lives := 0
	for _, e := range letters {
		other, plain := r.Copy(), p.another()
		if got, want := other.Push(e), plain.push(e); got != want {
			t.Fatalf("%s: Push(%s): %v, want %v", text(p.log...), text(e), got, want)
		}
		lives += shortLives(t, other, plain, letters, steps-1)
	}
	for n := -1; n <= len(p.log)+1; n++ {
		other, plain := r.Copy(), p.another()
		want, why := plain.to(n)
		if got, err := other.To(n); !slices.Equal(got, want) || err != why {
			t.Fatalf("%s: At %d: To(%d): %v, %v, want %v, %v", text(p.log...), p.at, n, got, err, want, why)
		}
		lives += shortLives(t, other, plain, letters, steps-1)
	}
	alike(t, r, p)
	return lives
}

func TestP9_2_P9_3_AllShortLives(t *testing.T) {
	if lives := shortLives(t, New(), plainReader{}, list(n(), d(1), c(1)), 6); lives < 10000 {
		t.Error("too few:", lives)
	}
	if lives := shortLives(t, New(), plainReader{}, list(n(), d(1), a(1), in(2, c(1)), by(1, d(1)), by(1, c(1)), api.Entry{}), 4); lives < 10000 {
		t.Error("too few:", lives)
	}
}

func TestP9_2_P9_3_LongLives(t *testing.T) {
	met := map[api.Errno]int{}
	for seed := range 60 {
		p := dice(seed)
		r, plain := New(), plainReader{}
		for step := range 400 {
			e := p.entry(plain.log, 1+step/10, 3+seed%30)
			if p.pick(20) == 0 {
				e.Epoch--
			}
			want := plain.push(e)
			met[want]++
			wantPush(t, r, e, want)
			if p.pick(3) == 0 {
				n := plain.at + p.pick(9) - 2
				want, why := plain.to(n)
				met[why]++
				if got, err := r.To(n); !slices.Equal(got, want) || err != why {
					t.Fatalf("%s: At %d: To(%d): %v, %v, want %v, %v", text(plain.log...), plain.at, n, got, err, want, why)
				}
			}
			if p.pick(50) == 0 {
				r = r.Copy()
			}
			alike(t, r, plain)
		}
	}
	for _, err := range []api.Errno{api.OK, api.ErrArg, api.ErrRange, api.ErrEpoch, api.ErrGood} {
		if met[err] < 100 {
			t.Errorf("%v was met %d times", err, met[err])
		}
	}
}
