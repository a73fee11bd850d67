package visible

import (
	"slices"
	"testing"

	"waystation/api"
)

// begins tells whether one list is a beginning of another one.
func begins(a, b []int) bool { return len(a) <= len(b) && slices.Equal(a, b[:len(a)]) }

// viewsOf are what is visible of the first 0, 1, 2 and so on entries.
func viewsOf(t *testing.T, l []api.Entry) [][]int {
	t.Helper()
	var all [][]int
	for n := range len(l) + 1 {
		view, err := View(l, n)
		if err != api.OK {
			t.Fatalf("%s: View(%d): %v", text(l...), n, err)
		}
		all = append(all, view)
	}
	return all
}

// grows fails if what is visible of fewer entries is no beginning of what is of more. Beginnings of beginnings are some, so neighbours do.
func grows(t *testing.T, l []api.Entry) {
	t.Helper()
	views := viewsOf(t, l)
	for n := range l {
		if !begins(views[n], views[n+1]) {
			t.Errorf("%s: View(%d) %v, View(%d) %v", text(l...), n, views[n], n+1, views[n+1])
		}
	}
}

// whole fails if a transaction of which something is visible has something that is stable and not visible.
func whole(t *testing.T, l []api.Entry, n int) {
	t.Helper()
	view, _ := View(l, n)
	stable, _ := Stable(l, n)
	seen := map[[2]int64]int{}
	for _, at := range view {
		if at >= stable {
			t.Errorf("%s: %d of %d is visible, %d are stable", text(l...), at, n, stable)
		}
		seen[[2]int64{int64(l[at].ID), l[at].Num}]++
	}
	there := map[[2]int64]int{}
	for _, e := range l[:stable] {
		if e.Kind == api.EntryData {
			there[[2]int64{int64(e.ID), e.Num}]++
		}
	}
	for x, count := range seen {
		if there[x] != count {
			t.Errorf("%s: of %v %d of %d are visible of %d", text(l...), x, count, there[x], n)
		}
	}
}

// reads lets a reader look at some lengths, and fails if what it is told is not the View of the last; it tells that.
func reads(t *testing.T, l []api.Entry, lengths ...int) []int {
	t.Helper()
	r, told := New(), []int(nil)
	for _, n := range lengths {
		for at := r.Len(); at < n; at++ {
			wantPush(t, r, l[at], api.OK)
		}
		fresh, err := r.To(n)
		if err != api.OK {
			t.Errorf("%s: To(%d): %v", text(l...), n, err)
		}
		told = append(told, fresh...)
		if view, _ := View(l, n); !slices.Equal(told, view) || !slices.Equal(r.Told(), told) {
			t.Errorf("%s: told %v, Told %v, View(%d) %v", text(l...), told, r.Told(), n, view)
		}
	}
	return told
}

// rising are some lengths of a log, each as great as the last or greater.
func (p *dice) rising(length int) []int {
	all := []int{p.pick(length + 1)}
	for p.pick(6) > 0 {
		last := all[len(all)-1]
		all = append(all, min(length, last+p.pick(max(2, length/4))))
	}
	return all
}

func TestP9_4_WhatIsVisibleOfAGoodLogGrows(t *testing.T) {
	logs := shortLogs(6, n(), d(1), c(1), a(1), by(1, d(1)), by(1, c(1)))
	good := 0
	for _, l := range logs {
		if Good(l) {
			grows(t, l)
			good++
		}
		if t.Failed() {
			t.FailNow()
		}
	}
	if good < 1000 {
		t.Error("too few were good:", good)
	}
	for seed := range 60 {
		p := dice(seed)
		grows(t, p.goodLog(150, 3+seed))
	}
}

// TestP9_4_OfOtherLogsItNeedNotGrow: what an abort hid a commit behind it shows, so that the tests above ask for something.
func TestP9_4_OfOtherLogsItNeedNotGrow(t *testing.T) {
	views := viewsOf(t, list(d(1), a(1), n(), c(1)))
	if begins(views[3], views[4]) {
		t.Error(views)
	}
}

func TestP9_4_ATransactionIsSeenWholeOrNotAtAll(t *testing.T) {
	for _, l := range shortLogs(5, n(), d(1), c(1), a(1), by(1, d(1)), by(1, c(1)), d(2)) {
		for n := range len(l) + 1 {
			whole(t, l, n)
		}
		if t.Failed() {
			t.FailNow()
		}
	}
	for seed := range 60 {
		p := dice(seed)
		for _, l := range [][]api.Entry{p.anyLog(120, 1+seed), p.goodLog(120, 3+seed)} {
			for n := range len(l) + 1 {
				whole(t, l, n)
			}
		}
	}
}

func TestP9_4_WhatIsToldIsTheViewOfTheLast(t *testing.T) {
	for _, l := range shortLogs(5, n(), d(1), c(1), by(1, d(1)), by(1, a(1))) {
		if !Good(l) {
			continue
		}
		reads(t, l, upTo(0, len(l))...)
		for from := range len(l) + 1 {
			reads(t, l, from, len(l), len(l))
		}
		if t.Failed() {
			t.FailNow()
		}
	}
	for seed := range 60 {
		p := dice(seed)
		l := p.goodLog(200, 3+seed)
		reads(t, l, upTo(0, len(l))...)
	}
}

func TestP9_4_TwoReadersOfAGoodLog(t *testing.T) {
	apart := 0
	for seed := range 300 {
		p := dice(seed)
		l := p.goodLog(20+seed/3, 3+seed/10)
		one, other := reads(t, l, p.rising(len(l))...), reads(t, l, p.rising(len(l))...)
		if !begins(one, other) && !begins(other, one) {
			t.Errorf("%s: %v and %v", text(l...), one, other)
		}
		if len(one) != len(other) && len(one) > 0 && len(other) > 0 {
			apart++
		}
	}
	if apart < 50 {
		t.Error("too few were told apart:", apart)
	}
}
