package epochs

import (
	"math"
	"slices"
	"testing"

	"waystation/api"
)

// of is a log whose entries have these epochs.
func of(epochs ...int64) []api.Entry {
	var l []api.Entry
	for i, e := range epochs {
		l = append(l, api.Entry{Epoch: e, ID: -1, Kind: api.EntryData, Value: int64(i)})
	}
	return l
}

// many is a log of n entries of one epoch.
func many(n int, epoch int64) []api.Entry {
	return of(slices.Repeat([]int64{epoch}, n)...)
}

// rising is a log of n entries, each of another epoch, from 1 on.
func rising(n int) []api.Entry {
	var l []int64
	for i := range n {
		l = append(l, int64(i)+1)
	}
	return of(l...)
}

// epochsOf are a log's epochs, for what a test tells.
func epochsOf(l []api.Entry) []int64 {
	if len(l) > 16 {
		l = l[:16]
	}
	var all []int64
	for _, e := range l {
		all = append(all, e.Epoch)
	}
	return all
}

// noLogs are lists of entries that may not be a log.
func noLogs() [][]api.Entry {
	return [][]api.Entry{
		of(0), of(-1), of(math.MinInt64), of(api.MaxNumber + 1), of(math.MaxInt64), of(1 << 32), of(1<<32 + 1),
		of(0, 1), of(1, 0), of(1, -1), of(1, api.MaxNumber+1), of(api.MaxNumber, api.MaxNumber+1), of(api.MaxNumber+1, 1),
		of(2, 1), of(1, 2, 1), of(1, 3, 2, 4), of(1, 1, 2, 2, 1), of(api.MaxNumber, 1), of(api.MaxNumber, api.MaxNumber-1),
		many(api.MaxLog+1, 1), rising(api.MaxLog + 1), many(2*api.MaxLog, 7), many(api.MaxLog+1, 0),
		append(many(api.MaxLog-1, 2), of(1)...), append(many(api.MaxLog-1, 2), of(0)...), append(many(api.MaxLog-1, 2), of(api.MaxNumber+1)...),
		make([]api.Entry, 1<<20), {{}},
	}
}

// logs are lists of entries that may be a log, the edges among them.
func logs() [][]api.Entry {
	return [][]api.Entry{
		nil, {}, of(1), of(api.MaxNumber), of(1, 1), of(1, api.MaxNumber), of(api.MaxNumber, api.MaxNumber),
		of(1, 1, 2, 4, 4), of(1, 2, 3), of(3, 3, 3), of(2, 5, 5, 9), of(1, 1, api.MaxNumber-1, api.MaxNumber),
		many(api.MaxLog, 1), many(api.MaxLog, api.MaxNumber), rising(api.MaxLog), many(api.MaxLog-1, 5),
	}
}

// shortLogs are all lists of at most so many entries with epochs from least to most.
func shortLogs(entries int, least, most int64) [][]api.Entry {
	all := [][]int64{nil}
	for from := 0; from < len(all); from++ {
		if l := all[from]; len(l) < entries {
			for e := least; e <= most; e++ {
				all = append(all, append(slices.Clone(l), e))
			}
		}
	}
	var out [][]api.Entry
	for _, l := range all {
		out = append(out, of(l...))
	}
	return out
}

// mays are those of some lists that may be a log.
func mays(l [][]api.Entry) [][]api.Entry {
	var out [][]api.Entry
	for _, x := range l {
		if plainMay(x) {
			out = append(out, x)
		}
	}
	return out
}

func wantStarts(t *testing.T, l []api.Entry, want ...api.Start) {
	t.Helper()
	if got, err := Starts(l); !slices.Equal(got, want) || err != api.OK {
		t.Errorf("Starts(%v): %v, %v, want %v", epochsOf(l), got, err, want)
	}
}

func wantLast(t *testing.T, l []api.Entry, want int64) {
	t.Helper()
	if got, err := Last(l); got != want || err != api.OK {
		t.Errorf("Last(%v): %d, %v, want %d", epochsOf(l), got, err, want)
	}
}

func wantFits(t *testing.T, l []api.Entry, n int, epoch int64, want bool) {
	t.Helper()
	if got, err := Fits(l, n, epoch); got != want || err != api.OK {
		t.Errorf("Fits(%v, %d, %d): %v, %v, want %v", epochsOf(l), n, epoch, got, err, want)
	}
}

func wantEnd(t *testing.T, l []api.Entry, epoch, want int64, at int) {
	t.Helper()
	if e, n, err := End(l, epoch); e != want || n != at || err != api.OK {
		t.Errorf("End(%v, %d): %d, %d, %v, want %d, %d", epochsOf(l), epoch, e, n, err, want, at)
	}
}

func wantCut(t *testing.T, l []api.Entry, epoch int64, end, want int) {
	t.Helper()
	if got, err := Cut(l, epoch, end); got != want || err != api.OK {
		t.Errorf("Cut(%v, %d, %d): %d, %v, want %d", epochsOf(l), epoch, end, got, err, want)
	}
}

func wantMeet(t *testing.T, leader, l []api.Entry, kept, times int) {
	t.Helper()
	if k, n, err := Meet(leader, l); k != kept || n != times || err != api.OK {
		t.Errorf("Meet(%v, %v): %d, %d, %v, want %d, %d", epochsOf(leader), epochsOf(l), k, n, err, kept, times)
	}
}

func refusesStarts(t *testing.T, l []api.Entry) {
	t.Helper()
	if got, err := Starts(l); got != nil || err != api.ErrArg {
		t.Errorf("Starts(%v): %v, %v", epochsOf(l), got, err)
	}
}

func refusesLast(t *testing.T, l []api.Entry) {
	t.Helper()
	if got, err := Last(l); got != 0 || err != api.ErrArg {
		t.Errorf("Last(%v): %v, %v", epochsOf(l), got, err)
	}
}

func refusesFits(t *testing.T, l []api.Entry, n int, epoch int64) {
	t.Helper()
	if got, err := Fits(l, n, epoch); got || err != api.ErrArg {
		t.Errorf("Fits(%v, %d, %d): %v, %v", epochsOf(l), n, epoch, got, err)
	}
}

func refusesEnd(t *testing.T, l []api.Entry, epoch int64) {
	t.Helper()
	if e, n, err := End(l, epoch); e != 0 || n != 0 || err != api.ErrArg {
		t.Errorf("End(%v, %d): %d, %d, %v", epochsOf(l), epoch, e, n, err)
	}
}

func refusesCut(t *testing.T, l []api.Entry, epoch int64, end int) {
	t.Helper()
	if got, err := Cut(l, epoch, end); got != 0 || err != api.ErrArg {
		t.Errorf("Cut(%v, %d, %d): %d, %v", epochsOf(l), epoch, end, got, err)
	}
}

func refusesMeet(t *testing.T, leader, l []api.Entry) {
	t.Helper()
	if k, n, err := Meet(leader, l); k != 0 || n != 0 || err != api.ErrArg {
		t.Errorf("Meet(%v, %v): %d, %d, %v", epochsOf(leader), epochsOf(l), k, n, err)
	}
}

// below are numbers below 0.
func below() []int { return []int{-1, -2, math.MinInt32, -1 << 32, math.MinInt + 1, math.MinInt} }

func TestP7_1_LogsThatMayBe(t *testing.T) {
	for _, l := range logs() {
		if !May(l) {
			t.Errorf("%d entries, %v, may not be", len(l), epochsOf(l))
		}
	}
}

func TestP7_1_LogsThatMayNotBe(t *testing.T) {
	for _, l := range noLogs() {
		if May(l) {
			t.Errorf("%d entries, %v, may be", len(l), epochsOf(l))
		}
	}
}

func TestP7_1_EpochsAloneAreAsked(t *testing.T) {
	l := []api.Entry{
		{Epoch: 1, ID: -9, Num: -1, Seq: -1, Kind: 77, Value: math.MinInt64},
		{Epoch: 1, ID: math.MaxInt, Num: math.MaxInt64, Seq: math.MaxInt64, Kind: -1, Value: math.MaxInt64},
		{Epoch: 3},
	}
	if !May(l) {
		t.Error("may not be")
	}
	wantStarts(t, l, api.Start{Epoch: 1, At: 0}, api.Start{Epoch: 3, At: 2})
	wantLast(t, l, 3)
	wantFits(t, l, 2, 1, true)
	wantEnd(t, l, 2, 1, 2)
	wantCut(t, l, 2, 3, 2)
	wantMeet(t, of(1, 1, 3), l, 3, 0)
	wantMeet(t, l, of(1, 1, 2), 2, 1)
}

func TestP7_1_Starts(t *testing.T) {
	wantStarts(t, nil)
	wantStarts(t, []api.Entry{})
	wantStarts(t, of(1), api.Start{Epoch: 1, At: 0})
	wantStarts(t, of(api.MaxNumber), api.Start{Epoch: api.MaxNumber, At: 0})
	wantStarts(t, of(1, 1, 2, 4, 4), api.Start{Epoch: 1, At: 0}, api.Start{Epoch: 2, At: 2}, api.Start{Epoch: 4, At: 3})
	wantStarts(t, of(1, api.MaxNumber), api.Start{Epoch: 1, At: 0}, api.Start{Epoch: api.MaxNumber, At: 1})
	wantStarts(t, many(api.MaxLog, 6), api.Start{Epoch: 6, At: 0})
	got, err := Starts(rising(api.MaxLog))
	if len(got) != api.MaxLog || err != api.OK {
		t.Fatal(len(got), err)
	}
	for i, s := range got {
		if s != (api.Start{Epoch: int64(i) + 1, At: i}) {
			t.Errorf("%d: %v", i, s)
		}
	}
}

func TestP7_1_StartsAreNewMemory(t *testing.T) {
	l := of(1, 2, 2, 3)
	a, _ := Starts(l)
	b, _ := Starts(l)
	for i := range a {
		a[i] = api.Start{Epoch: 99, At: 99}
	}
	if want := []api.Start{{Epoch: 1, At: 0}, {Epoch: 2, At: 1}, {Epoch: 3, At: 3}}; !slices.Equal(b, want) {
		t.Error(b)
	}
}

func TestP7_1_StartsAreLeftAnywhere(t *testing.T) {
	l := of(1, 1, 2, 4, 4)
	for n := range 4 {
		var got []api.Start
		for s := range starts(l) {
			if len(got) == n {
				break
			}
			got = append(got, s)
		}
		if want := plainStarts(l)[:min(n, 3)]; !slices.Equal(got, want) {
			t.Errorf("left behind %d: %v, want %v", n, got, want)
		}
	}
}

func TestP7_1_Last(t *testing.T) {
	wantLast(t, nil, 0)
	wantLast(t, []api.Entry{}, 0)
	wantLast(t, of(1), 1)
	wantLast(t, of(api.MaxNumber), api.MaxNumber)
	wantLast(t, of(1, 1, 2, 4, 4), 4)
	wantLast(t, many(api.MaxLog, 3), 3)
	wantLast(t, rising(api.MaxLog), api.MaxLog)
}

func TestP7_1_Fits(t *testing.T) {
	l := of(1, 1, 2, 4, 4)
	for n, epoch := range []int64{0, 1, 1, 2, 4, 4} {
		for e := range int64(7) {
			wantFits(t, l, n, e, e == epoch)
		}
		wantFits(t, l, n, api.MaxNumber, false)
		wantFits(t, l, n, math.MaxInt64, false)
		wantFits(t, l, n, epoch+1<<32, false)
	}
}

func TestP7_1_FitsAtNothing(t *testing.T) {
	for _, l := range logs() {
		wantFits(t, l, 0, 0, true)
		for _, epoch := range []int64{1, 2, api.MaxNumber, math.MaxInt64} {
			wantFits(t, l, 0, epoch, false)
		}
	}
}

func TestP7_1_FitsAtTheEndAndAboveIt(t *testing.T) {
	for _, l := range logs() {
		epoch := plainLast(l)
		wantFits(t, l, len(l), epoch, true)
		wantFits(t, l, len(l), epoch+1, false)
		for _, n := range []int{len(l) + 1, len(l) + 2, api.MaxLog + 1, math.MaxInt32, 1 << 32, math.MaxInt} {
			for _, e := range []int64{0, 1, epoch, epoch + 1, api.MaxNumber, math.MaxInt64} {
				wantFits(t, l, n, e, false)
			}
		}
	}
}

func TestP7_1_FitsLooksAtLengthNotAtSpareRoom(t *testing.T) {
	l := of(1, 2, 3, 4)[:2]
	wantFits(t, l, 3, 3, false)
	wantFits(t, l, 4, 4, false)
	wantFits(t, l, 2, 2, true)
}

func TestP7_1_End(t *testing.T) {
	l := of(1, 1, 2, 4, 4)
	wantEnd(t, l, 0, 0, 0)
	wantEnd(t, l, 1, 1, 2)
	wantEnd(t, l, 2, 2, 3)
	wantEnd(t, l, 3, 2, 3)
	wantEnd(t, l, 4, 4, 5)
	wantEnd(t, l, 5, 4, 5)
	wantEnd(t, l, api.MaxNumber, 4, 5)
	wantEnd(t, l, api.MaxNumber+1, 4, 5)
	wantEnd(t, l, math.MaxInt64, 4, 5)
}

func TestP7_1_EndBelowTheFirstAndAboveTheLast(t *testing.T) {
	l := of(5, 5, 9)
	for e := range int64(5) {
		wantEnd(t, l, e, 0, 0)
	}
	for e := int64(5); e < 9; e++ {
		wantEnd(t, l, e, 5, 2)
	}
	for e := int64(9); e < 15; e++ {
		wantEnd(t, l, e, 9, 3)
	}
	top := of(1, api.MaxNumber)
	wantEnd(t, top, api.MaxNumber-1, 1, 1)
	wantEnd(t, top, api.MaxNumber, api.MaxNumber, 2)
	wantEnd(t, top, api.MaxNumber+1, api.MaxNumber, 2)
	for _, e := range []int64{0, 1, api.MaxNumber, math.MaxInt64} {
		wantEnd(t, nil, e, 0, 0)
		wantEnd(t, []api.Entry{}, e, 0, 0)
	}
}

func TestP7_1_EndOfLongLogs(t *testing.T) {
	l := rising(api.MaxLog)
	for e := range int64(api.MaxLog + 1) {
		wantEnd(t, l, e, e, int(e))
	}
	wantEnd(t, l, api.MaxLog+1, api.MaxLog, api.MaxLog)
	one := many(api.MaxLog, 7)
	wantEnd(t, one, 6, 0, 0)
	wantEnd(t, one, 7, 7, api.MaxLog)
	wantEnd(t, one, 8, 7, api.MaxLog)
}

func TestP7_1_Cut(t *testing.T) {
	l := of(1, 1, 2, 4, 4)
	rows := []struct {
		epoch     int64
		end, want int
	}{
		{4, 0, 0}, {4, 1, 1}, {4, 4, 4}, {4, 5, 5}, {4, 6, 5}, {4, math.MaxInt, 5},
		{3, 2, 2}, {3, 3, 3}, {3, 4, 3}, {3, 5, 3}, {3, 6, 3},
		{2, 0, 0}, {2, 2, 2}, {2, 5, 3}, {1, 1, 1}, {1, 2, 2}, {1, 3, 2}, {1, math.MaxInt, 2},
		{0, 0, 0}, {0, 1, 0}, {0, 5, 0}, {0, math.MaxInt, 0},
		{math.MaxInt64, 5, 5}, {math.MaxInt64, 2, 2}, {api.MaxNumber + 1, 6, 5}, {math.MaxInt64, math.MaxInt, 5},
	}
	for _, r := range rows {
		wantCut(t, l, r.epoch, r.end, r.want)
	}
}

func TestP7_1_CutAtTheEdges(t *testing.T) {
	for _, l := range logs() {
		epoch := plainLast(l)
		for _, end := range []int{0, len(l), len(l) + 1, api.MaxLog + 1, math.MaxInt} {
			wantCut(t, l, epoch, end, min(end, len(l)))
			wantCut(t, l, math.MaxInt64, end, min(end, len(l)))
			wantCut(t, l, 0, end, 0)
		}
	}
	wantCut(t, of(5, 6), 4, 2, 0)
	wantCut(t, rising(api.MaxLog), 17, api.MaxLog, 17)
	wantCut(t, rising(api.MaxLog), api.MaxLog, 17, 17)
	wantCut(t, nil, 9, 9, 0)
}

func TestP7_1_LogsThatMayNotBeAreErrArg(t *testing.T) {
	for _, l := range noLogs() {
		refusesStarts(t, l)
		refusesLast(t, l)
		for _, epoch := range []int64{0, 1, api.MaxNumber, math.MaxInt64, -1} {
			refusesEnd(t, l, epoch)
			for _, n := range []int{0, 1, len(l), len(l) + 1, math.MaxInt, -1} {
				refusesFits(t, l, n, epoch)
				refusesCut(t, l, epoch, n)
			}
		}
	}
}

func TestP7_1_NumbersBelowZeroAreErrArg(t *testing.T) {
	for _, l := range logs() {
		for _, x := range below() {
			refusesEnd(t, l, int64(x))
			for _, n := range []int{0, 1, len(l), len(l) + 1, math.MaxInt, -1} {
				refusesFits(t, l, n, int64(x))
				refusesCut(t, l, int64(x), n)
			}
			for _, epoch := range []int64{0, 1, plainLast(l), math.MaxInt64} {
				refusesFits(t, l, x, epoch)
				refusesCut(t, l, epoch, x)
			}
		}
	}
}

// TestP7_1_AllShortLists: lists that may not be, and numbers below 0, are among them.
func TestP7_1_AllShortLists(t *testing.T) {
	for _, l := range append(shortLogs(5, -1, 3), shortLogs(3, api.MaxNumber-1, api.MaxNumber+1)...) {
		may := plainMay(l)
		if May(l) != may {
			t.Errorf("May(%v): %v", epochsOf(l), !may)
		}
		if !may {
			refusesStarts(t, l)
			refusesLast(t, l)
			refusesEnd(t, l, 1)
			refusesFits(t, l, 0, 0)
			refusesCut(t, l, 1, 1)
		}
	}
}

// asks goes through what may be asked of a log, and what may not, and holds it against the plain way.
func asks(t *testing.T, l []api.Entry, epoch int64) {
	t.Helper()
	if epoch < 0 {
		refusesEnd(t, l, epoch)
	} else {
		e, n := plainEnd(l, epoch)
		wantEnd(t, l, epoch, e, n)
	}
	for n := -1; n <= len(l)+1; n++ {
		if n < 0 || epoch < 0 {
			refusesFits(t, l, n, epoch)
			refusesCut(t, l, epoch, n)
			continue
		}
		wantFits(t, l, n, epoch, plainFits(l, n, epoch))
		wantCut(t, l, epoch, n, len(plainCut(l, epoch, n)))
	}
}

func TestP7_1_AllShortLogs(t *testing.T) {
	for _, l := range mays(shortLogs(6, 1, 5)) {
		wantStarts(t, l, plainStarts(l)...)
		wantLast(t, l, plainLast(l))
		for epoch := int64(-1); epoch <= 6; epoch++ {
			asks(t, l, epoch)
		}
	}
}

func TestP7_2_Examples(t *testing.T) {
	wantMeet(t, of(1, 1, 3), of(1, 1, 2, 2), 2, 1)
	wantMeet(t, of(1, 2), of(1, 2, 2, 3), 2, 1)
}

func TestP7_2_ALogFitsItselfAndALongerOne(t *testing.T) {
	for _, l := range logs() {
		for n := range min(len(l), 9) {
			wantMeet(t, l, l[:n], n, 0)
		}
		wantMeet(t, l, l, len(l), 0)
		wantMeet(t, l, nil, 0, 0)
		wantMeet(t, l, []api.Entry{}, 0, 0)
	}
}

func TestP7_2_ALeaderOfNoEntries(t *testing.T) {
	for _, l := range logs() {
		for _, leader := range [][]api.Entry{nil, {}} {
			wantMeet(t, leader, l, 0, min(len(l), 1))
		}
	}
}

func TestP7_2_ALongerLogIsCutOnce(t *testing.T) {
	for _, l := range logs() {
		for n := range min(len(l), 9) {
			kept, times := plainMeet(l[:n], l)
			if kept != n || times != 1 {
				t.Fatal(kept, times)
			}
			wantMeet(t, l[:n], l, n, 1)
		}
	}
}

func TestP7_2_LogsThatPartAtTheirFirstEntry(t *testing.T) {
	wantMeet(t, of(1), of(2), 0, 1)
	wantMeet(t, of(2), of(1), 0, 1)
	wantMeet(t, of(1, 1, 1), of(2, 2, 2), 0, 1)
	wantMeet(t, of(2, 2, 2), of(1, 1, 1), 0, 1)
	wantMeet(t, of(1), of(api.MaxNumber), 0, 1)
	wantMeet(t, of(api.MaxNumber), of(1), 0, 1)
	wantMeet(t, many(api.MaxLog, 3), many(api.MaxLog, 2), 0, 1)
	wantMeet(t, many(api.MaxLog, 2), many(api.MaxLog, 3), 0, 1)
}

func TestP7_2_SeveralTimes(t *testing.T) {
	wantMeet(t, of(1, 3, 5), of(2, 4, 6), 0, 3)
	wantMeet(t, of(1, 1, 3, 5), of(1, 2, 4, 6), 1, 3)
	wantMeet(t, of(1, 1, 3, 5, 5), of(1, 1, 2, 4, 4), 2, 2)
	wantMeet(t, of(1, 3, 4, 4, 8), of(1, 2, 2, 2, 5, 6, 6, 7), 1, 2)
	wantMeet(t, of(1, 1, 1, 2, 4), of(1, 1, 2, 3, 3), 2, 2)
	var odd, even []int64
	for e := int64(1); len(odd) < api.MaxLog; e += 2 {
		odd, even = append(odd, e), append(even, e+1)
	}
	wantMeet(t, of(odd...), of(even...), 0, api.MaxLog)
	wantMeet(t, of(even...), of(odd...), 0, api.MaxLog)
}

func TestP7_2_OneEntryAtATime(t *testing.T) {
	wantMeet(t, of(1, 2), of(2), 0, 1)
	wantMeet(t, of(1, 1, 2), of(2, 2), 0, 2)
	wantMeet(t, of(1, 1, 1, 2), of(1, 2, 2), 1, 2)
	wantMeet(t, of(1, 1, 1, 1, 2), of(1, 2, 2, 2), 1, 3)
	// Where it goes to the end of an epoch at once, it goes on one by one only if it does not fit there.
	wantMeet(t, of(1, 1, 2), of(2, 2, 2, 2, 2), 3, 1)
	wantMeet(t, of(1, 1, 3), of(3, 3, 3, 3, 4), 3, 1)
	wantMeet(t, of(1, 1, 1, 3), of(1, 3, 3, 4), 1, 3)
	leader := append(many(api.MaxLog-1, 1), of(2)...)
	wantMeet(t, leader, many(api.MaxLog-1, 2), 0, api.MaxLog-1)
	wantMeet(t, leader, append(of(1), many(api.MaxLog-2, 2)...), 1, api.MaxLog-2)
	wantMeet(t, leader, many(api.MaxLog, 2), api.MaxLog, 0)
}

func TestP7_2_OneThatMayNotBeIsErrArg(t *testing.T) {
	nos, all := noLogs(), logs()
	for i, no := range nos {
		for _, l := range all {
			refusesMeet(t, no, l)
			refusesMeet(t, l, no)
		}
		refusesMeet(t, no, no)
		refusesMeet(t, no, nos[(i+1)%len(nos)])
	}
}

func TestP7_2_AllShortPairs(t *testing.T) {
	all := mays(shortLogs(5, 1, 4))
	for _, leader := range all {
		for _, l := range all {
			kept, times := plainMeet(leader, l)
			wantMeet(t, leader, l, kept, times)
		}
	}
}

func TestP7_2_LongPairs(t *testing.T) {
	d := dice(5)
	long := func() []api.Entry {
		epoch, l := int64(1+d.pick(2)), []int64(nil)
		same := 1 + d.pick(40)
		for range d.pick(300) {
			if d.pick(same) == 0 {
				epoch += int64(1 + d.pick(3))
			}
			l = append(l, epoch)
		}
		return of(l...)
	}
	for range 1000 {
		leader, l := long(), long()
		kept, times := plainMeet(leader, l)
		wantMeet(t, leader, l, kept, times)
		wantStarts(t, l, plainStarts(l)...)
		asks(t, l, int64(d.pick(300)))
	}
}

// held is a log with spare room behind it, and all of it as it was.
type held struct{ all, was []api.Entry }

func holding(l []api.Entry) held {
	all := append(slices.Clone(l), of(1, 99, 3)...)
	return held{all: all, was: slices.Clone(all)}
}

func (h held) log() []api.Entry { return h.all[:len(h.all)-3] }

func TestP7_1_P7_2_WhatIsHandedInIsNotChanged(t *testing.T) {
	for _, l := range append(append(logs(), noLogs()...), of(2, 2, 3), of(1, 2, 2, 3)) {
		a, b := holding(l), holding(of(1, 1, 2, 4, 4))
		May(a.log())
		Starts(a.log())
		Last(a.log())
		Fits(a.log(), 1, 1)
		End(a.log(), 2)
		Cut(a.log(), 2, 2)
		Meet(a.log(), b.log())
		Meet(b.log(), a.log())
		Meet(a.log(), a.log())
		if !slices.Equal(a.all, a.was) || !slices.Equal(b.all, b.was) {
			t.Errorf("%v was changed", epochsOf(l))
		}
	}
}
