package replica

import (
	"math"
	"testing"

	"waystation/api"
)

func TestP11_2_Ask(t *testing.T) {
	r := replicaOf(t, 3, 1)
	refuses(t, r, api.ErrLead, ask())
	run(t, r, learn(view(1, 0, 0, 1)))
	answers(t, r, fetch(3, 0, 0, 0, 0), ask())
	run(t, r, learn(view(1, 4, 0, 1)))
	answers(t, r, fetch(3, 4, 0, 0, 0), ask())
	run(t, r, take(reply(4, 0, 0, 0, log(2, 2, 3)...)))
	answers(t, r, fetch(3, 4, 3, 3, 0), ask())
	run(t, r, flush(), take(reply(4, 3, 3, 0, log(9, math.MaxInt32)...)))
	answers(t, r, fetch(3, 4, 5, math.MaxInt32, 3), ask())
	was := told(r)
	for range 3 {
		run(t, r, ask())
	}
	if told(r) != was {
		t.Errorf("%s, then %s", was, told(r))
	}
	run(t, r, learn(view(3, 5, 0, 3)))
	refuses(t, r, api.ErrLead, ask())
	run(t, r, learn(view(-1, 6, 0, 3)))
	refuses(t, r, api.ErrLead, ask())
	run(t, r, learn(view(2, 6, 0, 2)), crash(9))
	refuses(t, r, api.ErrLead, ask())
}

// parts is a leader's log, with the epochs 1 1 2 4 4 5.
func parts() []api.Entry { return log(1, 1, 2, 4, 4, 5) }

func TestP11_2_ServeWhereItFits(t *testing.T) {
	r := leader(t, parts(), 0, 1)
	for offset, last := range []int64{0, 1, 1, 2, 4, 4, 5} {
		left := len(parts()) - offset
		for _, most := range []int{0, 1, 2, left - 1, left, left + 1, math.MaxInt} {
			if most < 0 {
				continue
			}
			want := reply(5, offset, last, 0, parts()[offset:offset+min(most, left)]...)
			answers(t, r, want, serve(fetch(1, 5, offset, last, 0), most))
		}
	}
}

func TestP11_2_ServeWhereItDoesNotFit(t *testing.T) {
	r := leader(t, parts(), 0, 1)
	run(t, r, flush(), serve(fetch(1, 5, 2, 1, 2), 0))
	was := told(r)
	fits := []int64{0, 1, 1, 2, 4, 4, 5}
	// Of each epoch: the greatest that the log has and that is not above it, and where that ends.
	ends := []struct {
		epoch int64
		at    int
	}{{0, 0}, {1, 2}, {2, 3}, {2, 3}, {4, 5}, {5, 6}, {5, 6}}
	for _, offset := range []int{0, 1, 2, 3, 4, 5, 6, 7, 8, math.MaxInt} {
		for last := range int64(len(ends)) {
			if offset < len(fits) && fits[offset] == last {
				continue
			}
			want := cutting(5, offset, last, ends[last].epoch, ends[last].at)
			want.High = 2
			// It is not noted what such a one has: its entries may be others.
			for _, flushed := range []int{0, offset} {
				answers(t, r, want, serve(fetch(1, 5, offset, last, flushed), 9))
				answers(t, r, want, serve(fetch(3, 5, offset, last, flushed), 0))
			}
		}
	}
	answers(t, r, api.Reply{Epoch: 5, Base: 6, Last: math.MaxInt64, Cut: true, CutEpoch: 5, CutEnd: 6, High: 2}, serve(fetch(1, 5, 6, math.MaxInt64, 6), 9))
	if told(r) != was {
		t.Errorf("%s, then %s", was, told(r))
	}
	// Of no entries.
	none := leader(t, nil, 0, 1)
	answers(t, none, cutting(5, 1, 1, 0, 0), serve(fetch(1, 5, 1, 1, 0), 9))
	answers(t, none, cutting(5, 0, 1, 0, 0), serve(fetch(1, 5, 0, 1, 0), 9))
	answers(t, none, reply(5, 0, 0, 0), serve(fetch(1, 5, 0, 0, 0), 9))
}

func TestP11_2_ServeNotesWhatLasts(t *testing.T) {
	r := leader(t, parts(), 0, 1, 2)
	run(t, r, flush())
	known := func(want ...int) {
		t.Helper()
		if s := r.Standing(); len(s.Known) != 4 || [4]int(s.Known) != [4]int(want) {
			t.Errorf("Known %v, want %v", s.Known, want)
		}
	}
	known(-1, -1, -1, -1)
	answers(t, r, reply(5, 0, 0, 0), serve(fetch(1, 5, 0, 0, 0), 0))
	known(-1, 0, -1, -1)
	answers(t, r, reply(5, 4, 4, 0), serve(fetch(1, 5, 4, 4, 3), 0))
	known(-1, 3, -1, -1)
	// Less, the same, more; what it asks from on says nothing.
	for i, flushed := range []int{2, 0, 3, 5} {
		run(t, r, serve(fetch(1, 5, 6, 5, flushed), 0))
		known(-1, []int{3, 3, 3, 5}[i], -1, -1)
	}
	// High is the least of all that count, ahead of the answer.
	answers(t, r, reply(5, 3, 2, 2, parts()[3]), serve(fetch(2, 5, 3, 2, 2), 1))
	wantMarks(t, r, 6, 2)
	answers(t, r, reply(5, 6, 5, 5), serve(fetch(2, 5, 6, 5, 6), 1))
	wantMarks(t, r, 6, 5)
	known(-1, 5, 6, -1)
	// One that does not count is known, and counts nothing.
	answers(t, r, reply(5, 6, 5, 5), serve(fetch(3, 5, 6, 5, 6), 1))
	known(-1, 5, 6, 6)
	wantMarks(t, r, 6, 5)
	// What itself has not flushed is not committed.
	r = leader(t, parts(), 0, 1)
	answers(t, r, reply(5, 6, 5, 0), serve(fetch(1, 5, 6, 5, 6), 1))
	wantMarks(t, r, 0, 0)
	run(t, r, flush())
	wantMarks(t, r, 6, 6)
}

func TestP11_2_ServeOfWhatDoesNotLead(t *testing.T) {
	for name, r := range inEachRole(t) {
		if name == "leads" {
			continue
		}
		refuses(t, r, api.ErrLead, serve(fetch(1, 5, 0, 0, 0), 9), serve(fetch(1, 4, 0, 0, 0), 9), serve(fetch(3, 0, 9, 9, 9), 0), serve(fetch(0, math.MaxInt64, 0, 0, 0), 9))
	}
}

func TestP11_2_ServeOfAnotherEpoch(t *testing.T) {
	r := leader(t, parts(), 0, 1)
	for _, epoch := range []int64{0, 1, 4, 6, math.MaxInt32, math.MaxInt32 + 1, math.MaxInt64} {
		refuses(t, r, api.ErrOld, serve(fetch(1, epoch, 6, 5, 6), 9), serve(fetch(1, epoch, 7, 5, 6), 9))
	}
}

func TestP11_2_ServeWhatMayNotBe(t *testing.T) {
	var bad []deed
	for _, epoch := range []int64{0, 4, 5, 6} {
		for _, from := range append(outside(4), 2) {
			bad = append(bad, serve(fetch(from, epoch, 0, 0, 0), 1))
		}
		for _, n := range []int{-1, -2, math.MinInt, -1 << 32} {
			bad = append(bad,
				serve(fetch(1, epoch, 0, 0, 0), n), serve(fetch(1, int64(n), 0, 0, 0), 1), serve(fetch(1, epoch, n, 0, 0), 1), serve(fetch(1, epoch, n, 0, n), 1),
				serve(fetch(1, epoch, n, 0, n-1), 1), serve(fetch(1, epoch, 0, int64(n), 0), 1), serve(fetch(1, epoch, 1, 5, n), 1))
		}
		for _, flushed := range []int{1, 2, math.MaxInt} {
			bad = append(bad, serve(fetch(1, epoch, flushed-1, 0, flushed), 1), serve(fetch(1, epoch, 0, 0, flushed), 1))
		}
	}
	for _, r := range inEachRole(t) {
		refuses(t, r, api.ErrArg, bad...)
	}
}
