package replica

import (
	"math"
	"testing"

	"waystation/api"
)

func TestP11_1_Append(t *testing.T) {
	r := replicaOf(t, 3, 2)
	run(t, r, learn(view(3, 2, 1, 1, 3)))
	var want []api.Entry
	for at, e := range []api.Entry{
		nobodys(-1 << 31), nobodys(1<<31 - 1), data(0, 1, 0), data(3, 7, 0), data(0, 1, 1), nobodys(0),
		commits(0, 1), aborts(3, 7), commits(3, 9), aborts(2, math.MaxInt32), data(1, math.MaxInt32, 0),
	} {
		answers(t, r, at, add(e))
		want = append(want, in(2, e))
	}
	wantLog(t, r, want)
	stands(t, r, api.Standing{Role: api.RoleLead, Epoch: 2, Version: 1, ISR: []int{1, 3}, Counts: []int{1, 3}, Known: []int{-1, -1, -1, -1}})
	// In another epoch they go on behind.
	run(t, r, learn(view(3, math.MaxInt32, 1, 1, 3)))
	answers(t, r, 11, add(nobodys(4)))
	wantLog(t, r, append(want, in(math.MaxInt32, nobodys(4))))
}

// TestP11_1_AppendWhateverItsEpoch: that of an entry that is handed in says nothing.
func TestP11_1_AppendWhateverItsEpoch(t *testing.T) {
	r := leader(t, log(4), 0)
	want := log(4)
	for i, epoch := range []int64{0, 1, 4, 5, 6, -1, math.MaxInt32, math.MaxInt32 + 1, math.MinInt64, math.MaxInt64} {
		answers(t, r, i+1, add(in(epoch, nobodys(8))))
		want = append(want, in(5, nobodys(8)))
	}
	wantLog(t, r, want)
	// And in epoch 0, where it does not lead.
	none := replicaOf(t, 0, 4)
	for _, epoch := range []int64{0, 1, -1, math.MaxInt64} {
		refuses(t, none, api.ErrLead, add(in(epoch, nobodys(8))), add(in(epoch, data(0, 1, 0))), add(in(epoch, data(0, 1, 5))), add(in(epoch, commits(0, 1))))
	}
}

// wrongEntries may not be, whatever their epoch.
func wrongEntries() []api.Entry {
	var all []api.Entry
	for _, kind := range []api.EntryKind{0, 4, -1, math.MaxInt, math.MinInt} {
		all = append(all, api.Entry{ID: -1, Kind: kind}, api.Entry{ID: 0, Num: 1, Kind: kind})
	}
	for _, id := range []int{-2, 4, math.MaxInt, math.MinInt} {
		all = append(all, data(id, 1, 0), commits(id, 1), aborts(id, 1))
	}
	for _, value := range []int64{-1<<31 - 1, 1 << 31, math.MinInt64, math.MaxInt64} {
		all = append(all, nobodys(value), api.Entry{ID: 0, Num: 1, Kind: api.EntryData, Value: value}, api.Entry{ID: 0, Num: 1, Kind: api.EntryCommit, Value: value})
	}
	for _, num := range []int64{0, -1, 1 << 31, math.MaxInt64} {
		all = append(all, api.Entry{ID: 0, Num: num, Kind: api.EntryData}, commits(0, num), aborts(3, num))
	}
	for _, seq := range []int64{-1, 1 << 31, math.MinInt64} {
		all = append(all, api.Entry{ID: 0, Num: 1, Seq: seq, Kind: api.EntryData})
	}
	return append(all,
		api.Entry{ID: -1, Num: 1, Kind: api.EntryData}, api.Entry{ID: -1, Seq: 1, Kind: api.EntryData}, commits(-1, 0), aborts(-1, 1), commits(-1, 1),
		api.Entry{ID: 0, Num: 1, Seq: 1, Kind: api.EntryCommit}, api.Entry{ID: 0, Num: 1, Value: 1, Kind: api.EntryAbort})
}

func TestP11_1_AppendWhatMayNotBe(t *testing.T) {
	all := inEachRole(t)
	all["new"] = replicaOf(t, 0, 4)
	few := replicaOf(t, 0, 4)
	run(t, few, learn(view(0, 1, 0, 0)))
	all["few"] = few
	for _, r := range all {
		for _, e := range wrongEntries() {
			refuses(t, r, api.ErrArg, add(e), add(in(1, e)))
		}
	}
	full := leader(t, many(1, api.MaxLog), 0)
	refuses(t, full, api.ErrArg, add(api.Entry{}), add(commits(-1, 0)))
}

// many is so many data of nobody of an epoch.
func many(epoch int64, n int) []api.Entry {
	var l []api.Entry
	for at := range n {
		l = append(l, in(epoch, nobodys(int64(at))))
	}
	return l
}

func TestP11_1_AppendOfWhatDoesNotLead(t *testing.T) {
	for name, r := range inEachRole(t) {
		if name != "leads" {
			refuses(t, r, api.ErrLead, add(nobodys(0)), add(data(0, 1, 0)), add(data(0, 1, 1)), add(commits(0, 1)))
		}
	}
}

func TestP11_1_AppendWhileFewAreInStep(t *testing.T) {
	lists := [][]int{{0}, {0, 2}, {0, 1, 3}, {0, 1, 2, 3}}
	for least := 1; least <= 4; least++ {
		for n, isr := range lists {
			r := replicaOf(t, 0, least)
			run(t, r, learn(view(0, 1, 1, isr...)))
			if n+1 < least {
				refuses(t, r, api.ErrFew, add(nobodys(0)), add(data(0, 1, 0)), add(data(0, 1, 1)), add(commits(0, 1)))
			} else {
				answers(t, r, 0, add(nobodys(0)))
			}
		}
	}
	// Who counts only is not in step.
	r := replicaOf(t, 0, 2)
	run(t, r, learn(view(0, 1, 1, 0)), serve(fetch(1, 1, 0, 0, 0), 0), propose(0, 1))
	refuses(t, r, api.ErrFew, add(nobodys(0)))
	run(t, r, learn(view(0, 1, 2, 0, 1)))
	answers(t, r, 0, add(nobodys(0)))
	run(t, r, learn(view(0, 1, 3, 0)))
	refuses(t, r, api.ErrFew, add(nobodys(0)))
}

func TestP11_1_AppendWhatCheckRefuses(t *testing.T) {
	r := leader(t, nil, 0)
	run(t, r, add(data(0, 3, 0)), add(data(0, 3, 1)), add(data(1, 1, 0)), add(commits(1, 1)), add(data(2, 4, 0)), add(data(2, 4, 1)), add(aborts(2, 4)))
	refuses(t, r, api.ErrFenced, add(data(0, 2, 0)), add(data(1, 1, 1)), add(data(2, 3, 0)), add(data(2, 4, 2)), add(commits(0, 2)), add(commits(0, 4)), add(aborts(0, 4)))
	refuses(t, r, api.ErrOpen, add(data(0, 4, 0)), add(data(0, 5, 1)))
	refuses(t, r, api.ErrDouble, add(data(0, 3, 0)), add(data(0, 3, 1)), add(commits(1, 1)), add(aborts(1, 1)), add(commits(2, 4)), add(commits(2, 3)))
	refuses(t, r, api.ErrOrder, add(data(0, 3, 3)), add(data(0, 3, math.MaxInt32)), add(data(1, 2, 1)), add(data(3, 1, 1)))
	answers(t, r, 7, add(data(0, 3, 2)))
	answers(t, r, 8, add(aborts(0, 3)))
	answers(t, r, 9, add(data(1, 2, 0)))
}

// TestP11_1_AppendBelowTheLastEpoch: what a follower took may be of a greater epoch than the one in which it comes to lead.
func TestP11_1_AppendBelowTheLastEpoch(t *testing.T) {
	r := follower(t, log(1, 6)...)
	run(t, r, learn(view(0, 5, 5, 0)))
	refuses(t, r, api.ErrEpoch, add(nobodys(1)), add(data(0, 1, 0)), add(data(0, 1, 1)), add(commits(0, 1)))
	refuses(t, r, api.ErrArg, add(commits(-1, 0)))
	run(t, r, learn(view(0, 6, 5, 0)))
	answers(t, r, 2, add(nobodys(2)))
	wantLog(t, r, []api.Entry{in(1, nobodys(0)), in(6, nobodys(1)), in(6, nobodys(2))})
}

func TestP11_1_AppendUpToTheBound(t *testing.T) {
	r := leader(t, nil, 0)
	for at := range api.MaxLog - 1 {
		run(t, r, add(data(0, 1, int64(at))))
	}
	if n := len(r.Log()); n != api.MaxLog-1 {
		t.Fatal(n)
	}
	answers(t, r, api.MaxLog-1, add(nobodys(1)))
	// Layer 8's Check has ErrLong ahead of what an ID wrote.
	refuses(t, r, api.ErrLong, add(nobodys(1)), add(data(0, 1, 4095)), add(commits(0, 1)), add(data(0, 1, 0)), add(data(0, 2, 0)))
	run(t, r, flush())
	wantMarks(t, r, api.MaxLog, api.MaxLog)
	run(t, r, learn(view(0, 6, 0, 0)))
	refuses(t, r, api.ErrLong, add(nobodys(1)))
	// Too few in step, and none that leads, is told ahead of it.
	few := replicaOf(t, 0, 2)
	run(t, few, learn(view(1, 1, 0, 1)), take(reply(1, 0, 0, 0, many(1, api.MaxLog)...)))
	refuses(t, few, api.ErrLead, add(nobodys(1)))
	run(t, few, learn(view(0, 2, 0, 0)))
	refuses(t, few, api.ErrFew, add(nobodys(1)))
}

func TestP11_1_Flush(t *testing.T) {
	// While it follows, and while it does neither, it counts nothing.
	r := follower(t, log(1, 1)...)
	wantMarks(t, r, 0, 0)
	run(t, r, flush())
	wantMarks(t, r, 2, 0)
	run(t, r, take(reply(1, 2, 1, 1, log(1)...)))
	wantMarks(t, r, 2, 1)
	run(t, r, learn(view(-1, 2, 0, 0)), flush())
	wantMarks(t, r, 3, 1)
	wantLog(t, r, append(log(1, 1), log(1)...))
	// One that counts.
	r = leader(t, log(1, 1), 0)
	wantMarks(t, r, 0, 0)
	run(t, r, flush())
	wantMarks(t, r, 2, 2)
	run(t, r, add(nobodys(1)))
	wantMarks(t, r, 2, 2)
	run(t, r, flush(), flush())
	wantMarks(t, r, 3, 3)
	// Several, of which it is the last.
	r = leader(t, log(1, 1, 1), 0, 1, 2)
	run(t, r, serve(fetch(1, 5, 3, 1, 2), 0), serve(fetch(2, 5, 3, 1, 3), 0))
	wantMarks(t, r, 0, 0)
	run(t, r, flush())
	wantMarks(t, r, 3, 2)
	// Several, of one of which nothing is known.
	r = leader(t, log(1, 1, 1), 0, 1, 2)
	run(t, r, serve(fetch(1, 5, 3, 1, 2), 0), flush())
	wantMarks(t, r, 3, 0)
	// Of no entries.
	r = replicaOf(t, 0, 1)
	run(t, r, flush())
	stands(t, r, api.Standing{Role: api.RoleNone})
}
