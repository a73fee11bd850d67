package visible

import (
	"math"
	"slices"
	"testing"

	"waystation/api"
)

func wantStable(t *testing.T, l []api.Entry, n, want int) {
	t.Helper()
	if got, err := Stable(l, n); got != want || err != api.OK {
		t.Errorf("%s: Stable(%d): %d, %v, want %d", text(l...), n, got, err, want)
	}
}

func wantView(t *testing.T, l []api.Entry, n int, want ...int) {
	t.Helper()
	if got, err := View(l, n); !slices.Equal(got, want) || err != api.OK {
		t.Errorf("%s: View(%d): %v, %v, want %v", text(l...), n, got, err, want)
	}
}

func wantGood(t *testing.T, l []api.Entry, want bool) {
	t.Helper()
	if got := Good(l); got != want {
		t.Errorf("%s: Good: %v", text(l...), got)
	}
}

// refuses asks Stable and View of a length for which they have the same error.
func refuses(t *testing.T, l []api.Entry, n int, want api.Errno) {
	t.Helper()
	if got, err := Stable(l, n); got != 0 || err != want {
		t.Errorf("%s: Stable(%d): %d, %v, want %v", text(l...), n, got, err, want)
	}
	if got, err := View(l, n); got != nil || err != want {
		t.Errorf("%s: View(%d): %v, %v, want %v", text(l...), n, got, err, want)
	}
}

// agrees holds what is told of a log that may be against the plain way, at some lengths.
func agrees(t *testing.T, l []api.Entry, lengths ...int) {
	t.Helper()
	for _, n := range lengths {
		wantStable(t, l, n, plainStable(l, n))
		wantView(t, l, n, plainView(l, n)...)
	}
	wantGood(t, l, plainGood(l))
}

// upTo are the numbers from one up to another one, that one too.
func upTo(from, to int) []int {
	var all []int
	for i := from; i <= to; i++ {
		all = append(all, i)
	}
	return all
}

func TestP9_1_Examples(t *testing.T) {
	l := list(n(), d(1), n(), c(1), n())
	for i, want := range [][]int{{0}, {0}, {0}, {0, 1, 2}, {0, 1, 2, 4}} {
		wantView(t, l, i+1, want...)
	}
	l = list(d(1), by(1, d(1)), a(1), by(1, c(1)))
	for i, want := range []int{0, 1, 4} {
		wantStable(t, l, i+2, want)
	}
	wantView(t, l, 4, 1)
}

func TestP9_1_ALogOfNoEntries(t *testing.T) {
	for _, l := range [][]api.Entry{nil, {}} {
		wantStable(t, l, 0, 0)
		wantView(t, l, 0)
		wantGood(t, l, true)
		for _, n := range []int{1, 2, -1, math.MaxInt, math.MinInt} {
			refuses(t, l, n, api.ErrRange)
		}
	}
}

func TestP9_1_LengthOfNoEntries(t *testing.T) {
	for _, l := range [][]api.Entry{list(n()), list(d(1)), list(c(1)), list(d(1), c(1)), many(api.MaxLog, n())} {
		wantStable(t, l, 0, 0)
		wantView(t, l, 0)
	}
}

func TestP9_1_LengthsThatAreNotThere(t *testing.T) {
	for _, l := range [][]api.Entry{list(n()), list(d(1), c(1)), list(c(1), d(1), a(1)), many(api.MaxLog, n())} {
		for _, n := range []int{-1, -2, math.MinInt, math.MinInt32, len(l) + 1, len(l) + 2, api.MaxLog + 1, 1 << 32, math.MaxInt} {
			refuses(t, l, n, api.ErrRange)
		}
		agrees(t, l, 0, len(l)-1, len(l))
	}
	// What stands in spare room behind a log is none of it.
	refuses(t, list(n(), n(), n())[:2], 3, api.ErrRange)
}

func TestP9_1_LogsThatMayNotBe(t *testing.T) {
	for _, l := range noLogs() {
		if plainMay(l) {
			t.Errorf("%s may be, says the plain way", text(l...))
		}
		wantGood(t, l, false)
		// A length that is not there besides, and one ahead of what is wrong.
		for _, n := range []int{0, 1, len(l), len(l) + 1, -1, math.MinInt, math.MaxInt} {
			refuses(t, l, n, api.ErrArg)
		}
	}
	// Not good and with an entry that may not be behind it, or an epoch that falls.
	for _, l := range [][]api.Entry{list(d(1), c(1), d(1), by(4, d(1))), list(in(2, c(1)), in(2, c(1)), n())} {
		wantGood(t, l, false)
		refuses(t, l, 2, api.ErrArg)
	}
}

func TestP9_1_EntriesAtTheEdges(t *testing.T) {
	for _, e := range edgeEntries() {
		agrees(t, list(e), 0, 1)
		wantGood(t, list(e), true)
		for _, marker := range list(c(e.Num), a(e.Num)) {
			if e.ID == -1 {
				continue
			}
			l := list(e, in(e.Epoch, by(e.ID, marker)), in(api.MaxNumber, n()))
			agrees(t, l, 0, 1, 2, 3)
			wantGood(t, l, e.Kind == api.EntryData)
		}
	}
}

func TestP9_1_NobodysData(t *testing.T) {
	wantView(t, list(n(), n(), n()), 2, 0, 1)
	wantView(t, list(n(), n(), n()), 3, 0, 1, 2)
	l := list(n(), d(1), n(), d(1), n())
	for n := 1; n <= 5; n++ {
		wantStable(t, l, n, 1)
		wantView(t, l, n, 0)
	}
	wantStable(t, append(l, c(1)), 6, 6)
	wantView(t, append(l, c(1)), 6, 0, 1, 2, 3, 4)
	wantView(t, append(l, a(1), n()), 7, 0, 2, 4, 6)
	wantGood(t, append(l, c(1), n(), n()), true)
	all := many(api.MaxLog, n())
	wantView(t, all, api.MaxLog, upTo(0, api.MaxLog-1)...)
	wantStable(t, all, api.MaxLog, api.MaxLog)
	wantGood(t, all, true)
}

func TestP9_1_HowATransactionEnds(t *testing.T) {
	for _, r := range []struct {
		l    []api.Entry
		want []int
		good bool
	}{
		{list(d(1), d(1), c(1)), []int{0, 1}, true},
		{list(d(1), d(1), a(1)), nil, true},
		{list(d(1), d(1)), nil, true},
		{list(d(1), c(1), a(1)), []int{0}, false},
		{list(d(1), a(1), c(1)), []int{0}, false},
		{list(d(1), c(1), c(1)), []int{0}, false},
		{list(d(1), a(1), a(1)), nil, false},
		{list(c(1)), nil, true},
		{list(a(1)), nil, true},
		{list(c(1), a(1)), nil, false},
		{list(c(1), d(1)), []int{1}, false},
		{list(a(1), d(1)), nil, false},
		{list(a(1), d(1), c(1)), []int{1}, false},
		{list(d(1), c(1), d(1)), []int{0, 2}, false},
		{list(d(1), a(1), d(1)), nil, false},
		{list(d(1), c(1), n(), n(), d(1), n()), []int{0, 2, 3, 4, 5}, false},
		{list(d(1), a(1), n(), n(), a(1), n()), []int{2, 3, 5}, false},
		{list(d(1), c(1), d(2), c(2), d(1)), []int{0, 2, 4}, false},
		{list(d(2), c(2), d(1), c(1)), []int{0, 2}, true},
		{list(c(1), n(), c(2), a(3)), []int{1}, true},
	} {
		wantStable(t, r.l, len(r.l), plainStable(r.l, len(r.l)))
		wantView(t, r.l, len(r.l), r.want...)
		wantGood(t, r.l, r.good)
		agrees(t, r.l, upTo(0, len(r.l))...)
	}
}

func TestP9_1_OpenAtTheFirstEntryAndAtTheLast(t *testing.T) {
	l := list(d(1), n(), by(1, d(1)), by(1, c(1)), n())
	wantStable(t, l, 5, 0)
	wantView(t, l, 5)
	l = list(n(), by(1, d(1)), by(1, c(1)), n(), d(1))
	wantStable(t, l, 5, 4)
	wantView(t, l, 5, 0, 1, 3)
	wantStable(t, append(l, a(1)), 6, 6)
	first := joined(list(d(1)), many(api.MaxLog-2, n()))
	wantStable(t, first, api.MaxLog-1, 0)
	wantView(t, first, api.MaxLog-1)
	wantView(t, append(first, c(1)), api.MaxLog, upTo(0, api.MaxLog-2)...)
	wantView(t, append(first, a(1)), api.MaxLog, upTo(1, api.MaxLog-2)...)
	last := joined(many(api.MaxLog-1, n()), list(d(1)))
	wantStable(t, last, api.MaxLog-1, api.MaxLog-1)
	wantStable(t, last, api.MaxLog, api.MaxLog-1)
	wantView(t, last, api.MaxLog, upTo(0, api.MaxLog-2)...)
}

func TestP9_1_TransactionsAreAnIDAndANum(t *testing.T) {
	// The same Num of two IDs.
	l := list(d(1), by(1, d(1)), by(1, c(1)), c(2), a(1))
	wantStable(t, l, 4, 0)
	wantStable(t, l, 5, 5)
	wantView(t, l, 5, 1)
	wantGood(t, l, true)
	wantGood(t, list(c(1), by(1, d(1)), by(2, c(1)), by(3, a(1))), true)
	// Two Nums of an ID: one is as good as another one, in whatever order.
	l = list(d(2), d(1), c(1), a(2))
	wantStable(t, l, 3, 0)
	wantView(t, l, 4, 1)
	wantGood(t, l, true)
	l = list(d(1), d(2), d(1), c(2), d(3), c(1), a(3))
	wantStable(t, l, 5, 0)
	wantStable(t, l, 6, 4)
	wantView(t, l, 6, 0, 1, 2)
	wantView(t, l, 7, 0, 1, 2)
	wantGood(t, l, true)
	// An ID and a Num that are those of another one, changed over.
	l = list(by(2, d(3)), by(3, d(2)), by(2, c(3)))
	wantStable(t, l, 3, 1)
	wantView(t, l, 3, 0)
	wantView(t, append(l, by(3, a(2))), 4, 0)
}

func TestP9_1_EpochsSeqsAndValuesMakeNoTransaction(t *testing.T) {
	l := list(d(1), as(7, worth(9, in(2, d(1)))), in(3, n()), in(3, c(1)), in(9, a(2)))
	wantStable(t, l, 3, 0)
	wantView(t, l, 5, 0, 1, 2)
	wantGood(t, l, true)
	wantGood(t, list(d(1), c(1), in(2, as(1, d(1)))), false)
}

// TestP9_1_AMarkerBehindWhatIsStable: it counts all the same, else what is visible of 4 would be no beginning of what is visible of 5.
func TestP9_1_AMarkerBehindWhatIsStable(t *testing.T) {
	l := list(d(1), n(), by(1, d(1)), c(1), by(1, a(1)))
	wantStable(t, l, 4, 2)
	wantView(t, l, 4, 0, 1)
	wantView(t, l, 5, 0, 1)
	// The one whose first data stand ahead of another one's is ended sooner, and goes on behind these.
	l = list(d(1), by(1, d(1)), d(1), c(1), n(), by(1, c(1)))
	wantStable(t, l, 3, 0)
	wantStable(t, l, 5, 1)
	wantView(t, l, 5, 0)
	wantView(t, l, 6, 0, 1, 2, 4)
	// It is ended later.
	l = list(d(1), by(1, d(1)), by(1, c(1)), n(), c(1))
	wantStable(t, l, 4, 0)
	wantView(t, l, 4)
	wantView(t, l, 5, 0, 1, 3)
}

// TestP9_1_WhatStandsBehindTheLength: it is not looked at, be it a marker or data.
func TestP9_1_WhatStandsBehindTheLength(t *testing.T) {
	l := list(d(1), n(), c(1), d(2), n(), a(2), d(1), by(1, d(5)))
	for n := range len(l) + 1 {
		stable, _ := Stable(l[:n], n)
		wantStable(t, l, n, stable)
		view, _ := View(l[:n], n)
		wantView(t, l, n, view...)
		agrees(t, l, n)
	}
	// A commit behind the length, of a transaction that has an abort ahead of it.
	wantView(t, list(d(1), a(1), c(1)), 2)
	wantView(t, list(d(1), a(1), c(1)), 3, 0)
	wantStable(t, list(d(1), a(1), c(1)), 2, 2)
}

func TestP9_1_AMarkerOfNoData(t *testing.T) {
	for _, l := range [][]api.Entry{list(c(1)), list(a(1)), list(n(), by(3, c(7)), n()), list(d(1), c(2)), list(d(1), by(1, c(1)), by(2, a(1)))} {
		agrees(t, l, upTo(0, len(l))...)
		wantGood(t, l, true)
	}
	wantStable(t, list(d(1), c(2), by(1, c(1)), n()), 4, 0)
	wantStable(t, list(n(), c(2), n()), 3, 3)
	wantView(t, list(n(), c(2), n()), 3, 0, 2)
}

func TestP9_1_ALogOfMaxLogEntries(t *testing.T) {
	var l []api.Entry
	for num := int64(1); len(l) < api.MaxLog; num++ {
		l = append(l, d(num), n(), by(1, d(num)), c(num), by(1, a(num)), by(2, d(1)), n(), by(3, c(num)))
	}
	agrees(t, l, 5, 8, 100, api.MaxLog)
	wantGood(t, l, true)
	wantStable(t, l, api.MaxLog, 5)
	l[api.MaxLog-1] = by(2, c(1))
	wantStable(t, l, api.MaxLog, api.MaxLog)
	agrees(t, l, api.MaxLog-1, api.MaxLog)
	l[api.MaxLog-1] = c(1)
	wantGood(t, l, false)
	more := append(slices.Clone(l), n())
	refuses(t, more, 5, api.ErrArg)
	wantGood(t, more, false)
}

func TestP9_1_AllShortLogs(t *testing.T) {
	one := shortLogs(6, n(), d(1), c(1), a(1), by(1, d(1)))
	several := shortLogs(4, n(), d(1), c(1), a(1), d(2), c(2), by(3, d(1)), by(3, c(1)), by(3, a(2)), in(2, d(1)), in(2, a(2)))
	good := 0
	for _, l := range append(one, several...) {
		if !plainMay(l) {
			refuses(t, l, len(l), api.ErrArg)
			wantGood(t, l, false)
			continue
		}
		agrees(t, l, upTo(0, len(l))...)
		if plainGood(l) {
			good++
		}
		if t.Failed() {
			t.FailNow()
		}
	}
	if good < 1000 {
		t.Error("too few were good:", good)
	}
}

func TestP9_1_LongLogs(t *testing.T) {
	some, none := 0, 0
	for seed := range 20 {
		p := dice(seed)
		for _, l := range [][]api.Entry{p.anyLog(150, 1), p.anyLog(150, 40), p.goodLog(150, 20), p.goodLog(80, 60)} {
			agrees(t, l, upTo(0, len(l))...)
			stable := plainStable(l, len(l))
			if stable > 20 && stable < len(l) {
				some++
			}
			if !plainGood(l) {
				none++
			}
		}
	}
	if some < 10 || none < 10 {
		t.Error("too little was tried:", some, none)
	}
}

func TestP9_1_WhatIsHandedInIsNotChangedAndNotKept(t *testing.T) {
	want := list(d(1), n(), by(1, d(1)), c(1), by(1, a(1)))
	for _, l := range [][]api.Entry{want, list(c(1), c(1)), list(n(), api.Entry{}, n()), list(in(2, n()), n())} {
		all := append(slices.Clone(l), a(7), a(8))
		was := slices.Clone(all)
		for _, n := range []int{0, 2, len(l), -1, len(l) + 1} {
			Stable(all[:len(l)], n)
			View(all[:len(l)], n)
			Good(all[:len(l)])
		}
		if !slices.Equal(all, was) {
			t.Error("changed:", text(all...))
		}
	}
	l := slices.Clone(want)
	told, _ := View(l, 5)
	for i := range l {
		l[i] = api.Entry{}
	}
	if !slices.Equal(told, []int{0, 1}) {
		t.Error(told)
	}
	told[0] = 9
	_ = append(told[:0], 8, 8, 8)
	wantView(t, want, 5, 0, 1)
}

func TestP9_1_OffsetsAreLeftAnywhere(t *testing.T) {
	l := list(n(), d(1), n(), c(1), n(), d(2))
	table, err := tableOf(l)
	if err != api.OK {
		t.Fatal(err)
	}
	for stop := range 7 {
		var stable, visible []int
		for at := range table.stable(0, len(l)) {
			if at == stop {
				break
			}
			stable = append(stable, at)
		}
		for at := range table.visible(0, len(l)) {
			if at >= stop {
				break
			}
			visible = append(visible, at)
		}
		if want := upTo(0, min(stop, 5)-1); !slices.Equal(stable, want) {
			t.Error(stop, stable, want)
		}
		if want := []int{0, 1, 2, 4}[:[]int{0, 1, 2, 3, 3, 4, 4}[stop]]; !slices.Equal(visible, want) {
			t.Error(stop, visible, want)
		}
	}
}
