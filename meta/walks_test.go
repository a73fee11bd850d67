package meta

import (
	"fmt"
	"slices"
	"strings"
	"testing"

	"waystation/api"
)

// walk is a controller, the plain way of it, and the calls that were made of both.
type walk struct {
	m     *Meta
	p     *plain
	deeds []string
	// seen is how often each call was answered each error.
	seen map[string]int
}

func newWalk(t *testing.T, brokers, parts, ids int) *walk {
	t.Helper()
	m := controller(t, brokers, parts, ids)
	return &walk{m: m, p: newPlain(m.Form()), seen: map[string]int{}}
}

// another goes on apart.
func (w *walk) another() *walk {
	return &walk{w.m.Copy(), w.p.another(), slices.Clone(w.deeds), w.seen}
}

// text is the last calls.
func (w *walk) text() string { return strings.Join(w.deeds[max(0, len(w.deeds)-20):], " ") }

// step makes a call of both, and holds them against each other.
func (w *walk) step(t *testing.T, d deed) {
	t.Helper()
	w.deeds = append(w.deeds, d.text)
	was, copied := told(w.m), w.m.Copy()
	got, want := d.do(w.m), d.do(w.p)
	name, _, _ := strings.Cut(d.text, "[")
	w.seen[name+" "+want.err.Error()]++
	if got != want {
		t.Fatalf("%s: %v, want %v", w.text(), got, want)
	}
	now := told(w.m)
	if now != told(w.p) {
		t.Fatalf("%s: %s, want %s", w.text(), now, told(w.p))
	}
	if Same(w.m, copied) != (now == was) || Same(copied, w.m) != (now == was) {
		t.Fatalf("%s: Same of %s and %s: %v", w.text(), now, was, now != was)
	}
	if told(copied) != was {
		t.Fatalf("%s: the copy was %s, is %s", w.text(), was, told(copied))
	}
	if why := follows(copied, w.m, name); why != "" {
		t.Fatalf("%s: %s: %s, then %s", w.text(), why, was, now)
	}
	// Init of an open transaction is refused, and aborts it.
	if got.err != api.OK && now != was && d.text != fmt.Sprintf("Init[%d]", opened(copied, w.m)) {
		t.Fatalf("%s was refused, and changed %s to %s", w.text(), was, now)
	}
}

// opened is the ID whose transaction was open, and is being aborted; or -1.
func opened(was, now *Meta) int {
	for id := range now.Form().IDs {
		before, _ := was.Writing(id)
		behind, _ := now.Writing(id)
		if before.State == api.TxnOpen && behind.State == api.TxnAbort {
			return id
		}
	}
	return -1
}

// follows tells what of P10.5 does not hold of a call of that name, and of how all stood ahead of it and behind it.
func follows(was, now *Meta, name string) string {
	f := now.Form()
	for part := range f.Parts {
		before, _ := was.View(part)
		behind, _ := now.View(part)
		if why := viewFollows(before, behind, name); why != "" {
			return why
		}
		if lives, _ := now.Lives(behind.Leader); behind.Leader != -1 && !lives {
			return "a leader that does not live"
		}
	}
	for id := range f.IDs {
		before, _ := was.Writing(id)
		behind, _ := now.Writing(id)
		if why := writingFollows(before, behind); why != "" {
			return why
		}
	}
	return ""
}

func viewFollows(was, now api.View, name string) string {
	comes := slices.ContainsFunc(now.ISR, func(broker int) bool { return !slices.Contains(was.ISR, broker) })
	switch {
	case now.Epoch < was.Epoch || now.Version < was.Version:
		return "less"
	case now.Epoch > now.Version:
		return "an Epoch above its Version"
	case len(now.ISR) == 0 || !slices.IsSorted(now.ISR) || len(slices.Compact(slices.Clone(now.ISR))) != len(now.ISR):
		return "nobody in step, or out of order"
	case now.Leader != -1 && !slices.Contains(now.ISR, now.Leader):
		return "a leader that is not in step"
	case comes && name != "Unclean" && name != "Alter":
		return "one that was not in step"
	case comes && name == "Unclean" && len(now.ISR) != 1:
		return "one beside who was elected unclean"
	case comes && name == "Alter" && now.Epoch != was.Epoch:
		return "an epoch by an Alter"
	}
	return ""
}

func writingFollows(was, now api.Writing) string {
	switch {
	case now.Session < was.Session || now.Num < was.Num || now.Offset < was.Offset:
		return "less"
	case now.State < api.TxnNone || now.State > api.TxnAbort:
		return "no state"
	case (len(now.Parts) == 0) != (now.State == api.TxnNone):
		return "a transaction without partitions, or partitions without one"
	case now.Next != 0 && now.State != api.TxnCommit:
		return "a Next without a commit"
	case now.State == api.TxnCommit && now.Next < now.Offset:
		return "a Next below the Offset"
	}
	return ""
}

// all makes all rows of so many calls, out of those that are asked at each place.
func (w *walk) all(t *testing.T, deeds func(p *plain) []deed, depth int) {
	if depth == 0 {
		return
	}
	for _, d := range deeds(w.p) {
		next := w.another()
		next.step(t, d)
		next.all(t, deeds, depth-1)
	}
}

// wantSeen fails unless each call was answered each of these errors at least so often.
func (w *walk) wantSeen(t *testing.T, least int, name string, errs ...api.Errno) {
	t.Helper()
	for _, err := range errs {
		if got := w.seen[name+" "+err.Error()]; got < least {
			t.Errorf("%s was answered %v %d times", name, err, got)
		}
	}
}

// aboutBrokers are calls of one partition.
func aboutBrokers(lists ...[]int) func(p *plain) []deed {
	return func(p *plain) []deed {
		v, _ := p.View(0)
		var all []deed
		for broker := range p.form.Brokers {
			all = append(all, fence(broker), elect(0, broker), unclean(0, broker))
			if p.dead[broker] {
				all = append(all, register(broker))
			}
		}
		for _, l := range lists {
			all = append(all, alter(0, max(0, v.Leader), v.Epoch, v.Version, l...))
		}
		return all
	}
}

// aboutWriters are calls of one ID.
func aboutWriters(p *plain) []deed {
	w, _ := p.Writing(0)
	return []deed{
		begin(0), add(0, w.Session, 0), add(0, w.Session, 1), add(0, w.Session-1, 1),
		commit(0, w.Session, w.Offset), commit(0, w.Session, w.Offset+1), abort(0, w.Session, w.Offset+1), commit(0, w.Session-1, w.Offset),
		marked(0, w.Num, 0), marked(0, w.Num, 1), marked(0, w.Num-1, 0),
	}
}

func TestP10_5_P10_1_P10_2_AllShortRowsAboutBrokers(t *testing.T) {
	w := newWalk(t, 2, 1, 1)
	w.all(t, aboutBrokers([]int{0}, []int{1}, []int{0, 1}), 5)
	for _, name := range []string{"Fence", "Elect", "Unclean", "Alter"} {
		w.wantSeen(t, 1000, name, api.OK)
	}
	w.wantSeen(t, 1000, "Elect", api.ErrDead, api.ErrSync)
	w.wantSeen(t, 1000, "Unclean", api.ErrDead)
	w.wantSeen(t, 1000, "Alter", api.ErrArg, api.ErrStale, api.ErrDead)
	w = newWalk(t, 3, 1, 1)
	w.all(t, aboutBrokers([]int{0, 2}, []int{0, 1, 2}), 4)
	w.wantSeen(t, 100, "Alter", api.OK, api.ErrDead)
}

func TestP10_5_P10_3_AllShortRowsAboutWriters(t *testing.T) {
	w := newWalk(t, 1, 2, 1)
	w.all(t, aboutWriters, 5)
	w.wantSeen(t, 1000, "Init", api.OK, api.ErrBusy)
	w.wantSeen(t, 1000, "Add", api.OK, api.ErrStale, api.ErrBusy)
	w.wantSeen(t, 1000, "Commit", api.OK, api.ErrStale, api.ErrBusy)
	w.wantSeen(t, 1000, "Abort", api.OK, api.ErrBusy)
	w.wantSeen(t, 100, "Marked", api.OK, api.ErrStale)
}

func TestP10_1_To_P10_5_ManyLongRows(t *testing.T) {
	seen := map[string]int{}
	for seed := range 400 {
		p := dice(seed)
		w := newWalk(t, 1+seed%4, 1+seed/4%4, 1+seed/16%4)
		w.seen = seen
		for range 300 {
			w.step(t, p.deed(w.p))
		}
	}
	w := &walk{seen: seen}
	for _, name := range []string{"Fence", "Register", "Elect", "Unclean", "Alter", "Init", "Add", "Commit", "Abort", "Marked"} {
		w.wantSeen(t, 100, name, api.OK, api.ErrArg)
	}
	w.wantSeen(t, 100, "Elect", api.ErrDead, api.ErrSync)
	w.wantSeen(t, 100, "Unclean", api.ErrDead)
	w.wantSeen(t, 100, "Alter", api.ErrStale, api.ErrDead)
	w.wantSeen(t, 100, "Init", api.ErrBusy)
	for _, name := range []string{"Add", "Commit", "Abort"} {
		w.wantSeen(t, 100, name, api.ErrStale, api.ErrBusy)
	}
	w.wantSeen(t, 100, "Marked", api.ErrStale)
}

// TestP10_1_To_P10_5_RowsNearTheEnd: calls come there in some 2^31 steps, so it is set by hand.
func TestP10_1_To_P10_5_RowsNearTheEnd(t *testing.T) {
	seen := map[string]int{}
	for seed := range 400 {
		p := dice(seed)
		w := newWalk(t, 1+seed%4, 1+seed/4%4, 1+seed/16%4)
		w.seen = seen
		for part := range w.m.Form().Parts {
			version := int64(most - p.pick(8))
			epoch := version - int64(p.pick(3))
			w.m.views[part].Epoch, w.m.views[part].Version = epoch, version
			w.p.parts[part].epoch, w.p.parts[part].version = epoch, version
		}
		for id := range w.m.Form().IDs {
			session, num, offset := int64(most-p.pick(5)), int64(most-p.pick(5)), int64(most-p.pick(5))
			w.m.writers[id].Session, w.m.writers[id].Num, w.m.writers[id].Offset = session, num, offset
			w.p.ids[id].session, w.p.ids[id].num, w.p.ids[id].offset = session, num, offset
		}
		for range 200 {
			w.step(t, p.deed(w.p))
		}
	}
	w := &walk{seen: seen}
	for _, name := range []string{"Fence", "Elect", "Unclean", "Alter", "Init", "Add"} {
		w.wantSeen(t, 100, name, api.OK, api.ErrEnd)
	}
	w.wantSeen(t, 100, "Commit", api.OK, api.ErrArg)
	w.wantSeen(t, 100, "Abort", api.OK, api.ErrArg)
}
