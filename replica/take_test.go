package replica

import (
	"math"
	"slices"
	"testing"

	"waystation/api"
)

func TestP11_2_Take(t *testing.T) {
	r := replicaOf(t, 0, 1)
	run(t, r, learn(view(1, 3, 0, 1)))
	// Without entries.
	run(t, r, take(reply(3, 0, 0, 0)))
	stands(t, r, api.Standing{Role: api.RoleFollow, Epoch: 3})
	// Their epochs may be less than its own, and greater; what their IDs wrote is not asked.
	l := []api.Entry{in(1, nobodys(5)), in(1, data(2, 3, 7)), in(2, data(2, 1, 0)), in(3, commits(2, 3)), in(9, data(2, 3, 7)), in(math.MaxInt32, aborts(2, 3))}
	run(t, r, take(reply(3, 0, 0, 0, l[:2]...)))
	wantLog(t, r, l[:2])
	run(t, r, take(reply(3, 2, 1, 0, l[2:]...)))
	wantLog(t, r, l)
	stands(t, r, api.Standing{Role: api.RoleFollow, Epoch: 3})
	run(t, r, flush())
	stands(t, r, api.Standing{Role: api.RoleFollow, Epoch: 3, Flushed: 6})
}

func TestP11_2_TakeHigh(t *testing.T) {
	r := follower(t, log(1, 1, 1, 1)...)
	for _, x := range []struct{ high, want int }{{0, 0}, {2, 2}, {1, 2}, {0, 2}, {2, 2}, {3, 3}, {4, 4}, {5, 4}, {math.MaxInt, 4}, {0, 4}} {
		run(t, r, take(reply(1, 4, 1, x.high)))
		wantMarks(t, r, 0, x.want)
	}
	// The log's end is that behind its entries.
	run(t, r, take(reply(1, 4, 1, 9, log(1, 1)...)))
	wantMarks(t, r, 0, 6)
	run(t, r, take(reply(1, 6, 1, 7, log(1, 1)...)))
	wantMarks(t, r, 0, 7)
	r = replicaOf(t, 0, 1)
	run(t, r, learn(view(1, 1, 0, 1)), take(reply(1, 0, 0, 5)))
	wantMarks(t, r, 0, 0)
}

// TestP11_2_TakeACut: of each epoch and end, how many entries of 1 1 2 4 4 are kept.
func TestP11_2_TakeACut(t *testing.T) {
	for _, x := range []struct {
		epoch     int64
		end, kept int
	}{
		{0, 0, 0}, {0, 5, 0}, {1, 5, 2}, {1, 2, 2}, {1, 1, 1}, {1, 0, 0}, {2, 5, 3}, {2, 3, 3}, {2, 2, 2}, {3, 5, 3}, {3, 4, 3},
		// What says that all is kept, and more, leaves one less.
		{4, 5, 4}, {4, 4, 4}, {4, 3, 3}, {4, 9, 4}, {5, 5, 4}, {5, 6, 4}, {math.MaxInt64, math.MaxInt, 4}, {math.MaxInt64, 1, 1}, {0, math.MaxInt, 0},
	} {
		l := log(1, 1, 2, 4, 4)
		for flushed := range 6 {
			for high := range 6 {
				r := replicaOf(t, 0, 1)
				run(t, r, learn(view(1, 5, 1, 1)), take(reply(5, 0, 0, 0, l[:flushed]...)), flush())
				at := api.Fetch{}
				if f, err := r.Ask(); err == api.OK {
					at = f
				}
				run(t, r, take(reply(5, at.Offset, at.Last, high, l[flushed:]...)))
				p := cutting(5, 5, 4, x.epoch, x.end)
				// Neither is taken of a cut.
				p.High, p.Entries = 5, log(4, 4)
				run(t, r, take(p))
				wantLog(t, r, l[:x.kept])
				stands(t, r, api.Standing{Role: api.RoleFollow, Epoch: 5, Flushed: min(flushed, x.kept), High: min(high, x.kept)})
			}
		}
	}
}

func TestP11_2_TakeACutOfNothing(t *testing.T) {
	r := replicaOf(t, 0, 1)
	run(t, r, learn(view(1, 5, 1, 1)))
	was := told(r)
	run(t, r, take(cutting(5, 0, 0, 0, 0)), take(cutting(5, 0, 0, 4, 4)), take(cutting(5, 0, 0, math.MaxInt64, math.MaxInt)))
	if told(r) != was {
		t.Errorf("%s, then %s", was, told(r))
	}
	// By single steps to nothing.
	run(t, r, take(reply(5, 0, 0, 9, log(1, 1, 1)...)), flush())
	for n := 3; n > 0; n-- {
		run(t, r, take(cutting(5, n, 1, 1, n)))
		wantMarks(t, r, n-1, n-1)
	}
	wantLog(t, r, nil)
}

// TestP11_2_TakeBehindACut: what was cut is as if it never had been.
func TestP11_2_TakeBehindACut(t *testing.T) {
	r := follower(t, in(1, data(0, 1, 0)), in(1, commits(0, 1)), in(1, data(0, 2, 0)))
	run(t, r, take(cutting(1, 3, 1, 1, 1)), take(reply(1, 1, 1, 2, in(1, aborts(0, 1)))))
	wantLog(t, r, []api.Entry{in(1, data(0, 1, 0)), in(1, aborts(0, 1))})
	run(t, r, learn(view(0, 2, 0, 0)))
	refuses(t, r, api.ErrFenced, add(data(0, 1, 1)))
	refuses(t, r, api.ErrDouble, add(commits(0, 1)))
	answers(t, r, 2, add(data(0, 2, 0)))
}

func TestP11_2_TakeUpToTheBound(t *testing.T) {
	r := follower(t, many(1, api.MaxLog-2)...)
	refuses(t, r, api.ErrLong, take(reply(1, api.MaxLog-2, 1, 5, many(1, 3)...)), take(reply(1, api.MaxLog-2, 1, 5, many(1, 9000)...)))
	run(t, r, take(reply(1, api.MaxLog-2, 1, 5, many(1, 2)...)))
	if n := len(r.Log()); n != api.MaxLog {
		t.Fatal(n)
	}
	refuses(t, r, api.ErrLong, take(reply(1, api.MaxLog, 1, 9, many(1, 1)...)))
	wantMarks(t, r, 0, 5)
	run(t, r, take(reply(1, api.MaxLog, 1, math.MaxInt)))
	wantMarks(t, r, 0, api.MaxLog)
	// Of a cut the entries are not asked how many they are.
	p := cutting(1, api.MaxLog, 1, 1, 2)
	p.Entries = many(1, api.MaxLog+1)
	run(t, r, take(p))
	wantLog(t, r, many(1, 2))
	// All at once, and one more.
	r = follower(t)
	refuses(t, r, api.ErrLong, take(reply(1, 0, 0, 5, many(1, api.MaxLog+1)...)))
	run(t, r, take(reply(1, 0, 0, 0, many(1, api.MaxLog)...)))
}

func TestP11_2_TakeOfWhatDoesNotFollow(t *testing.T) {
	for name, r := range inEachRole(t) {
		if name == "follows" {
			continue
		}
		last := r.Log()[0].Epoch
		refuses(t, r, api.ErrLead, take(reply(5, 1, last, 1)), take(reply(5, 1, last, 0, log(5)...)), take(cutting(5, 1, last, 0, 0)), take(reply(4, 9, 9, 0)), take(reply(5, 1, last, 0, many(5, 5000)...)))
	}
}

func TestP11_2_TakeWhatIsOld(t *testing.T) {
	r := follower(t, log(1, 2, 2)...)
	run(t, r, learn(view(1, 3, 0, 1)), take(reply(3, 3, 2, 1)))
	for _, old := range []api.Reply{
		reply(2, 3, 2, 3), reply(4, 3, 2, 3), reply(0, 3, 2, 3), reply(math.MaxInt64, 3, 2, 3),
		reply(3, 2, 2, 3), reply(3, 4, 2, 3), reply(3, 0, 0, 3), reply(3, math.MaxInt, 2, 3),
		reply(3, 3, 1, 3), reply(3, 3, 3, 3), reply(3, 3, 0, 3), reply(3, 3, math.MaxInt64, 3),
	} {
		refuses(t, r, api.ErrOld, take(old))
		old.Cut = true
		refuses(t, r, api.ErrOld, take(old))
		if old.Last <= 3 {
			old.Entries = many(3, 2)
			refuses(t, r, api.ErrOld, take(old))
			old.Cut, old.Entries = false, many(3, api.MaxLog)
			refuses(t, r, api.ErrOld, take(old))
		}
	}
	// What came comes again: the second time it is old.
	p := reply(3, 3, 2, 2, log(3)...)
	run(t, r, take(p))
	refuses(t, r, api.ErrOld, take(p))
	q := cutting(3, 4, 3, 2, 3)
	run(t, r, take(q))
	refuses(t, r, api.ErrOld, take(q))
}

func TestP11_2_TakeWhatMayNotBe(t *testing.T) {
	var bad []deed
	// In each place, with and without a cut, of the right epoch and another one.
	put := func(p api.Reply) {
		for _, cut := range []bool{false, true} {
			p.Cut = cut
			bad = append(bad, take(p))
		}
	}
	for _, epoch := range []int64{5, 4} {
		for _, n := range []int{-1, -2, math.MinInt, -1 << 32} {
			put(reply(int64(n), 1, 5, 1))
			put(reply(epoch, n, 5, 1))
			put(reply(epoch, 1, int64(n), 1))
			put(reply(epoch, 1, 5, n))
			put(api.Reply{Epoch: epoch, Base: 1, Last: 5, CutEpoch: int64(n)})
			put(api.Reply{Epoch: epoch, Base: 1, Last: 5, CutEnd: n})
		}
		for _, e := range wrongEntries() {
			put(reply(epoch, 1, 5, 1, in(5, e)))
			put(reply(epoch, 1, 5, 1, in(5, nobodys(0)), in(6, e)))
		}
		for _, of := range []int64{0, -1, math.MaxInt32 + 1, math.MinInt64, math.MaxInt64} {
			put(reply(epoch, 1, 0, 1, in(of, nobodys(0))))
			put(reply(epoch, 1, 5, 1, in(5, nobodys(0)), in(of, data(0, 1, 0))))
		}
		put(reply(epoch, 1, 5, 1, log(4)...))
		put(reply(epoch, 1, 5, 1, log(1, 5, 6)...))
		put(reply(epoch, 1, 5, 1, log(5, 6, 5)...))
		put(reply(epoch, 1, 5, 1, log(7, 6)...))
		put(reply(epoch, 1, math.MaxInt64, 1, log(5)...))
		put(reply(epoch, 0, 6, 1, log(5)...))
	}
	for _, r := range inEachRole(t) {
		refuses(t, r, api.ErrArg, bad...)
	}
	// Also behind as many as there may be, and more.
	r := follower(t)
	l := many(1, api.MaxLog+8)
	l[api.MaxLog+7].Kind = api.EntryNone
	refuses(t, r, api.ErrArg, take(reply(1, 0, 0, 0, l...)))
	l = many(2, api.MaxLog+8)
	l[api.MaxLog+7].Epoch = 1
	refuses(t, r, api.ErrArg, take(reply(1, 0, 0, 0, l...)), take(reply(1, 0, 0, 0, slices.Concat(l, l)...)))
}
