package producers

import (
	"math"
	"slices"
	"testing"

	"waystation/api"
)

// d, c, a are data and markers of ID 0, n is nobody's; all of epoch 1.
func d(num, seq int64) api.Entry {
	return api.Entry{Epoch: 1, Num: num, Seq: seq, Kind: api.EntryData}
}
func c(num int64) api.Entry { return api.Entry{Epoch: 1, Num: num, Kind: api.EntryCommit} }
func a(num int64) api.Entry { return api.Entry{Epoch: 1, Num: num, Kind: api.EntryAbort} }
func n() api.Entry          { return api.Entry{Epoch: 1, ID: -1, Kind: api.EntryData} }

// by is the same entry of another ID, in of another epoch, worth of another value.
func by(id int, e api.Entry) api.Entry         { e.ID = id; return e }
func in(epoch int64, e api.Entry) api.Entry    { e.Epoch = epoch; return e }
func worth(value int64, e api.Entry) api.Entry { e.Value = value; return e }

// list is some entries.
func list(l ...api.Entry) []api.Entry { return l }

// many is n times nobody's data, each of another value.
func many(count int) []api.Entry {
	var l []api.Entry
	for i := range count {
		l = append(l, worth(int64(i), n()))
	}
	return l
}

// made is the table of a log that may be.
func made(t *testing.T, l ...api.Entry) *Table {
	t.Helper()
	table, err := Of(l)
	if table == nil || err != api.OK {
		t.Fatalf("Of(%s): %v", text(l...), err)
	}
	return table
}

func wantWriter(t *testing.T, table *Table, id int, want api.Writer) {
	t.Helper()
	got, err := table.Writer(id)
	same := got.High == want.High && got.Next == want.Next && got.Marked == want.Marked && slices.Equal(got.Opens, want.Opens)
	if !same || err != api.OK {
		t.Errorf("%s: Writer(%d): %v, %v, want %v", text(table.Log()...), id, got, err, want)
	}
}

func wantStable(t *testing.T, table *Table, want int) {
	t.Helper()
	if got := table.Stable(); got != want {
		t.Errorf("%s: Stable: %d, want %d", text(table.Log()...), got, want)
	}
}

func wantCheck(t *testing.T, table *Table, e api.Entry, want api.Errno) {
	t.Helper()
	if got := table.Check(e); got != want {
		t.Errorf("%s: Check(%s): %v, want %v", text(table.Log()...), text(e), got, want)
	}
}

// wantLog asks for the entries in every way that tells them.
func wantLog(t *testing.T, table *Table, want []api.Entry) {
	t.Helper()
	if got := table.Log(); !slices.Equal(got, want) || table.Len() != len(want) {
		t.Errorf("Log: %s, Len: %d, want %s", text(got...), table.Len(), text(want...))
	}
}

// agrees holds a table against the plain way, told its log.
func agrees(t *testing.T, table *Table, l []api.Entry) {
	t.Helper()
	wantLog(t, table, l)
	wantStable(t, table, plainStable(l))
	for id := range api.MaxIDs {
		wantWriter(t, table, id, plainWriter(l, id))
	}
}

// wrongEntries are entries that may not be, each wrong in one part.
func wrongEntries() []api.Entry {
	var all []api.Entry
	change := func(right api.Entry, part func(e *api.Entry) *int64, wrong ...int64) {
		for _, x := range wrong {
			e := right
			*part(&e) = x
			all = append(all, e)
		}
	}
	epoch := func(e *api.Entry) *int64 { return &e.Epoch }
	num := func(e *api.Entry) *int64 { return &e.Num }
	seq := func(e *api.Entry) *int64 { return &e.Seq }
	value := func(e *api.Entry) *int64 { return &e.Value }
	for _, e := range list(n(), d(1, 0), c(1), a(1)) {
		change(e, epoch, 0, -1, math.MinInt64, api.MaxNumber+1, 1<<32+1, math.MaxInt64)
		change(e, value, -1<<31-1, 1<<31, math.MinInt64, math.MaxInt64)
		change(e, seq, -1, math.MinInt64, api.MaxNumber+1, math.MaxInt64)
		change(e, num, -1, math.MinInt64, api.MaxNumber+1, 1<<32+1, math.MaxInt64)
		for _, kind := range []api.EntryKind{api.EntryNone, -1, 4, 257, math.MinInt, math.MaxInt} {
			x := e
			x.Kind = kind
			all = append(all, x)
		}
		for _, id := range []int{-2, api.MaxIDs, math.MinInt, math.MaxInt, 1 << 32} {
			all = append(all, by(id, e))
		}
	}
	change(n(), num, 1)
	change(n(), seq, 1)
	for _, e := range list(c(1), a(1)) {
		change(e, num, 0)
		change(e, seq, 1)
		change(e, value, 1, -1)
		all = append(all, by(-1, e))
	}
	change(d(1, 0), num, 0)
	return append(all, api.Entry{}, by(-1, d(1, 0)), by(0, n()))
}

// edgeEntries are entries that may be, just so.
func edgeEntries() []api.Entry {
	l := list(n(), d(1, 0), d(api.MaxNumber, 0), d(1, api.MaxNumber), d(api.MaxNumber, api.MaxNumber), c(1), a(1), c(api.MaxNumber), a(api.MaxNumber))
	for _, e := range slices.Clone(l) {
		l = append(l, in(api.MaxNumber, e))
		if e.ID == 0 {
			l = append(l, by(api.MaxIDs-1, e))
		}
		if e.Kind == api.EntryData {
			l = append(l, worth(-1<<31, e), worth(1<<31-1, e))
		}
	}
	return l
}

// nones are tables that are not there.
func nones() []*Table { return []*Table{nil, {}, new(Table)} }

func TestP8_1_ATableOfNoEntries(t *testing.T) {
	of1, err1 := Of(nil)
	of2, err2 := Of([]api.Entry{})
	if err1 != api.OK || err2 != api.OK {
		t.Error(err1, err2)
	}
	for _, table := range []*Table{New(), of1, of2} {
		if table == nil {
			t.Fatal("no table")
		}
		agrees(t, table, nil)
		if err := table.Truncate(0); err != api.OK {
			t.Error(err)
		}
		agrees(t, table, nil)
		if err := table.Append(d(1, 0)); err != api.OK || table.Len() != 1 {
			t.Error(err, table.Len())
		}
	}
	agrees(t, New(), nil)
}

func TestP8_1_EntriesAtTheEdges(t *testing.T) {
	for _, e := range edgeEntries() {
		table := New()
		if err := table.Append(e); err != api.OK {
			t.Errorf("Append(%v): %v", e, err)
		}
		agrees(t, table, list(e))
		agrees(t, made(t, e), list(e))
	}
}

func TestP8_1_EntriesThatMayNotBe(t *testing.T) {
	l := list(n(), d(1, 0), by(3, c(2)))
	table := made(t, l...)
	for _, e := range wrongEntries() {
		if err := table.Append(e); err != api.ErrArg {
			t.Errorf("Append(%v): %v", e, err)
		}
		if err := New().Append(e); err != api.ErrArg {
			t.Errorf("Append(%v) of no entries: %v", e, err)
		}
		if got, err := Of(list(e)); got != nil || err != api.ErrArg {
			t.Errorf("Of(%v): %v, %v", e, got, err)
		}
	}
	agrees(t, table, l)
}

func TestP8_1_AppendTakesWhatCheckRefuses(t *testing.T) {
	rows := []struct {
		l    []api.Entry
		e    api.Entry
		want api.Errno
	}{
		{list(d(1, 0), c(1)), d(1, 1), api.ErrFenced},
		{list(d(1, 0), c(1)), d(1, 0), api.ErrFenced},
		{list(d(2, 0)), d(1, 0), api.ErrFenced},
		{list(d(2, 0)), c(1), api.ErrFenced},
		{list(d(1, 0)), c(2), api.ErrFenced},
		{list(d(1, 0)), d(2, 0), api.ErrOpen},
		{list(d(1, 0)), d(1, 0), api.ErrDouble},
		{list(d(1, 0), c(1)), a(1), api.ErrDouble},
		{nil, d(1, 1), api.ErrOrder},
		{nil, d(1, api.MaxNumber), api.ErrOrder},
	}
	for _, r := range rows {
		table := made(t, r.l...)
		wantCheck(t, table, r.e, r.want)
		if err := table.Append(r.e); err != api.OK {
			t.Errorf("%s: Append(%s): %v", text(r.l...), text(r.e), err)
		}
		agrees(t, table, append(slices.Clone(r.l), r.e))
	}
}

func TestP8_1_Epochs(t *testing.T) {
	for _, last := range list(in(5, n()), in(5, d(1, 0)), in(5, by(2, c(1)))) {
		for _, e := range list(n(), d(1, 1), c(1), by(3, d(9, 7))) {
			for epoch := int64(1); epoch <= 7; epoch++ {
				want := api.OK
				if epoch < 5 {
					want = api.ErrEpoch
				}
				l := list(in(2, n()), last)
				table := made(t, l...)
				if err := table.Append(in(epoch, e)); err != want {
					t.Errorf("%s: Append(%s): %v", text(l...), text(in(epoch, e)), err)
				}
				if want == api.OK {
					l = append(l, in(epoch, e))
				}
				agrees(t, table, l)
			}
		}
	}
}

func TestP8_1_EpochsAreThoseOfTheLastEntryThatIsThere(t *testing.T) {
	table := made(t, in(2, n()), in(4, n()), in(api.MaxNumber, n()))
	for _, r := range []struct {
		left      int
		less, may int64
	}{{3, api.MaxNumber - 1, api.MaxNumber}, {2, 3, 4}, {1, 1, 2}} {
		table.Truncate(r.left)
		wantCheck(t, table, in(r.less, n()), api.ErrEpoch)
		wantCheck(t, table, in(r.may, n()), api.OK)
		if err := table.Append(in(r.less, n())); err != api.ErrEpoch {
			t.Error(r, err)
		}
	}
	table.Truncate(0)
	if err := table.Append(in(1, n())); err != api.OK {
		t.Error(err)
	}
}

func TestP8_1_AFullTable(t *testing.T) {
	l := many(api.MaxLog - 1)
	table := made(t, l...)
	l = append(l, in(3, d(1, 0)))
	wantCheck(t, table, l[api.MaxLog-1], api.OK)
	if err := table.Append(l[api.MaxLog-1]); err != api.OK {
		t.Fatal(err)
	}
	agrees(t, table, l)
	for _, r := range []struct {
		e    api.Entry
		want api.Errno
	}{
		{in(3, n()), api.ErrLong}, {in(4, d(1, 1)), api.ErrLong}, {in(3, c(1)), api.ErrLong},
		{in(1, n()), api.ErrLong}, {in(3, d(1, 0)), api.ErrLong}, {in(2, d(2, 5)), api.ErrLong},
		{in(0, n()), api.ErrArg}, {by(7, in(3, d(1, 1))), api.ErrArg},
	} {
		wantCheck(t, table, r.e, r.want)
		if err := table.Append(r.e); err != r.want {
			t.Errorf("Append(%s): %v, want %v", text(r.e), err, r.want)
		}
	}
	agrees(t, table, l)
	if err := table.Truncate(api.MaxLog); err != api.OK || table.Append(in(3, n())) != api.ErrLong {
		t.Error(err)
	}
	table.Truncate(api.MaxLog - 1)
	if err := table.Append(n()); err != api.OK || table.Append(n()) != api.ErrLong {
		t.Error(err)
	}
}

func TestP8_1_OfAFullLogAndMore(t *testing.T) {
	agrees(t, made(t, many(api.MaxLog)...), many(api.MaxLog))
	refuses := func(l []api.Entry, want api.Errno) {
		t.Helper()
		if table, err := Of(l); table != nil || err != want {
			t.Errorf("Of %d: %v, want %v", len(l), err, want)
		}
	}
	refuses(many(api.MaxLog+1), api.ErrLong)
	refuses(many(2*api.MaxLog), api.ErrLong)
	refuses(append(many(api.MaxLog), api.Entry{}), api.ErrArg)
	refuses(append(many(api.MaxLog+1), api.Entry{}), api.ErrLong)
	late := append(many(api.MaxLog-1), in(2, n()), n())
	refuses(late, api.ErrLong)
	early := many(api.MaxLog + 1)
	early[0].Epoch = 2
	refuses(early, api.ErrEpoch)
	refuses(make([]api.Entry, 1<<18), api.ErrArg)
}

func TestP8_1_OfTellsTheFirstError(t *testing.T) {
	rows := []struct {
		l    []api.Entry
		want api.Errno
	}{
		{list(n(), api.Entry{}, n()), api.ErrArg},
		{list(n(), d(0, 0), in(0, n())), api.ErrArg},
		{list(in(2, n()), n(), api.Entry{}), api.ErrEpoch},
		{list(in(2, n()), api.Entry{}, n()), api.ErrArg},
		{list(in(2, n()), in(2, d(1, 0)), d(1, 1), in(2, d(1, 2))), api.ErrEpoch},
		{list(n(), n(), by(4, d(1, 0))), api.ErrArg},
		{list(in(3, n()), in(1, by(-2, n()))), api.ErrArg},
	}
	for _, r := range rows {
		if table, err := Of(r.l); table != nil || err != r.want {
			t.Errorf("Of(%s): %v, %v, want %v", text(r.l...), table, err, r.want)
		}
	}
	for _, wrong := range wrongEntries() {
		if table, err := Of(list(d(1, 0), d(1, 1), wrong, d(1, 2), c(1))); table != nil || err != api.ErrArg {
			t.Errorf("Of, with %v: %v, %v", wrong, table, err)
		}
	}
}

func TestP8_1_OfTakesWhatCheckRefuses(t *testing.T) {
	l := list(d(3, 9), d(1, 0), d(1, 0), c(2), c(2), a(2), d(2, 1), by(1, d(5, 5)), by(1, d(4, 0)), n(), c(1))
	agrees(t, made(t, l...), l)
}

func TestP8_1_Truncate(t *testing.T) {
	l := list(n(), d(1, 0), by(1, d(4, 0)), d(1, 1), c(1), in(2, d(2, 0)), in(2, by(1, a(4))), in(2, d(2, 1)), in(3, c(2)), in(3, by(2, c(9))))
	for left := 0; left <= len(l); left++ {
		table := made(t, l...)
		if err := table.Truncate(left); err != api.OK {
			t.Errorf("Truncate(%d): %v", left, err)
		}
		agrees(t, table, l[:left])
		if !Same(table, made(t, l[:left]...)) {
			t.Errorf("Truncate(%d): not the same", left)
		}
		for _, e := range append(slices.Clone(l), d(1, 0), d(1, 1), d(2, 1), c(1), by(1, c(4)), by(2, c(9)), n()) {
			wantCheck(t, table, e, plainCheck(l[:left], e))
		}
		anew := append(slices.Clone(l[:left]), in(4, d(7, 0)), in(4, by(1, d(1, 3))), in(5, c(7)))
		for _, e := range anew[left:] {
			if err := table.Append(e); err != api.OK {
				t.Error(err)
			}
		}
		agrees(t, table, anew)
	}
}

func TestP8_1_TruncateByOneDownToNothing(t *testing.T) {
	l := list(d(2, 0), d(1, 0), c(2), d(2, 5), d(1, 1), a(1), d(3, 0), by(2, d(1, 0)), n(), c(3))
	table := made(t, l...)
	for left := len(l) - 1; left >= 0; left-- {
		if err := table.Truncate(left); err != api.OK {
			t.Error(err)
		}
		agrees(t, table, l[:left])
	}
}

func TestP8_1_LengthsThatAreNotThere(t *testing.T) {
	for _, l := range [][]api.Entry{nil, list(n()), list(d(1, 0), d(1, 1), c(1)), many(api.MaxLog)} {
		table := made(t, l...)
		for _, left := range []int{-1, -2, math.MinInt, len(l) + 1, len(l) + 2, api.MaxLog + 1, 1 << 32, math.MaxInt} {
			if err := table.Truncate(left); err != api.ErrRange {
				t.Errorf("%d: Truncate(%d): %v", len(l), left, err)
			}
		}
		agrees(t, table, l)
	}
	table := made(t, n(), n(), n())
	table.Truncate(1)
	if err := table.Truncate(2); err != api.ErrRange {
		t.Error("what was truncated is there:", err)
	}
}

func TestP8_1_WhatLogToldIsNewMemory(t *testing.T) {
	l := list(d(1, 0), d(1, 1), n())
	table := made(t, l...)
	told := table.Log()
	for i := range told {
		told[i] = c(9)
	}
	_ = append(told[:0], a(8), a(8), a(8), a(8))
	agrees(t, table, l)
	told = table.Log()
	table.Truncate(1)
	table.Append(d(1, 7))
	table.Append(d(1, 8))
	if !slices.Equal(told, l) {
		t.Error(text(told...))
	}
	// Nor does what is appended to what was told come into the table's own spare room.
	told = append(table.Log(), c(9))
	table.Append(d(1, 9))
	wantLog(t, table, list(d(1, 0), d(1, 7), d(1, 8), d(1, 9)))
	if told[3] != c(9) {
		t.Error(text(told...))
	}
}

func TestP8_1_WhatOfWasHandedIsNotChangedAndNotKept(t *testing.T) {
	want := list(d(1, 0), d(1, 1), c(1), d(2, 0))
	all := append(slices.Clone(want), a(7), a(8))
	was := slices.Clone(all)
	l := all[:len(want)]
	table := made(t, l...)
	table.Append(d(2, 1))
	table.Truncate(2)
	table.Append(a(1))
	if !slices.Equal(all, was) {
		t.Error("changed:", text(all...))
	}
	table = made(t, l...)
	for i := range all {
		all[i] = in(9, n())
	}
	agrees(t, table, want)
	table.Truncate(3)
	agrees(t, table, want[:3])
}

func TestP8_2_Examples(t *testing.T) {
	table := made(t, d(1, 0), d(1, 1))
	wantWriter(t, table, 0, api.Writer{High: 1, Next: 2, Opens: []api.Open{{Num: 1, First: 0}}})
	wantStable(t, table, 0)
	wantCheck(t, table, d(1, 1), api.ErrDouble)
	wantCheck(t, table, d(1, 3), api.ErrOrder)
	wantCheck(t, table, d(2, 0), api.ErrOpen)
	wantCheck(t, table, c(2), api.ErrFenced)
	wantCheck(t, table, c(1), api.OK)
	table = made(t, d(1, 0), c(1), d(2, 0))
	wantWriter(t, table, 0, api.Writer{High: 2, Next: 1, Marked: 1, Opens: []api.Open{{Num: 2, First: 2}}})
	wantStable(t, table, 2)
	wantCheck(t, table, d(1, 1), api.ErrFenced)
	wantCheck(t, table, c(1), api.ErrDouble)
}

func TestP8_2_OfNoEntries(t *testing.T) {
	table := New()
	for id := range api.MaxIDs {
		wantWriter(t, table, id, api.Writer{})
		for _, num := range []int64{1, 2, api.MaxNumber} {
			wantCheck(t, table, by(id, d(num, 0)), api.OK)
			wantCheck(t, table, by(id, d(num, 1)), api.ErrOrder)
			wantCheck(t, table, by(id, d(num, api.MaxNumber)), api.ErrOrder)
			wantCheck(t, table, by(id, c(num)), api.OK)
			wantCheck(t, table, by(id, a(num)), api.OK)
		}
	}
	wantCheck(t, table, in(api.MaxNumber, n()), api.OK)
	wantStable(t, table, 0)
}

func TestP8_2_IDs(t *testing.T) {
	table := New()
	for id := range api.MaxIDs {
		table.Append(by(id, d(int64(id)+1, 0)))
	}
	for id := range api.MaxIDs {
		wantWriter(t, table, id, api.Writer{High: int64(id) + 1, Next: 1, Opens: []api.Open{{Num: int64(id) + 1, First: id}}})
	}
	for _, table := range []*Table{table, New()} {
		for _, id := range []int{-1, -2, math.MinInt, api.MaxIDs, api.MaxIDs + 1, 1 << 32, math.MaxInt} {
			if w, err := table.Writer(id); w.High != 0 || w.Next != 0 || w.Marked != 0 || w.Opens != nil || err != api.ErrArg {
				t.Errorf("Writer(%d): %v, %v", id, w, err)
			}
		}
	}
}

func TestP8_2_NobodysData(t *testing.T) {
	table := made(t, n(), n(), n())
	for id := range api.MaxIDs {
		wantWriter(t, table, id, api.Writer{})
	}
	wantStable(t, table, 3)
	wantCheck(t, table, n(), api.OK)
	table = made(t, n(), d(5, 0), n(), by(3, c(5)), n(), d(5, 9))
	wantWriter(t, table, 0, api.Writer{High: 5, Next: 10, Opens: []api.Open{{Num: 5, First: 1}}})
	wantWriter(t, table, 3, api.Writer{High: 5, Marked: 5})
	wantStable(t, table, 1)
	for _, e := range list(n(), worth(-1<<31, n()), worth(1<<31-1, n()), in(2, n())) {
		wantCheck(t, table, e, api.OK)
	}
	table.Append(in(3, n()))
	wantCheck(t, table, in(2, n()), api.ErrEpoch)
}

func TestP8_2_NumsOfData(t *testing.T) {
	table := made(t, d(3, 0), c(3), d(6, 0), d(6, 1))
	for num, want := range []api.Errno{0, api.ErrFenced, api.ErrFenced, api.ErrFenced, api.ErrFenced, api.ErrFenced, api.OK, api.ErrOpen, api.ErrOpen} {
		if num > 0 {
			wantCheck(t, table, d(int64(num), 2), want)
		}
	}
	// Without an open one: at Marked, one above it, below High, High and above.
	table = made(t, c(3))
	wantCheck(t, table, d(2, 0), api.ErrFenced)
	wantCheck(t, table, d(3, 0), api.ErrFenced)
	wantCheck(t, table, d(4, 0), api.OK)
	wantCheck(t, table, d(4, 1), api.ErrOrder)
	wantCheck(t, table, d(api.MaxNumber, 0), api.OK)
	// A Num that is above Marked and below High is of an elder transaction, open or not.
	table = made(t, c(1), d(3, 0), d(5, 0))
	wantCheck(t, table, d(2, 0), api.ErrFenced)
	wantCheck(t, table, d(3, 1), api.ErrFenced)
	wantCheck(t, table, d(5, 1), api.ErrOpen)
	// One that is marked where a greater one has data.
	table = made(t, d(5, 0), c(2))
	wantCheck(t, table, d(2, 0), api.ErrFenced)
	wantCheck(t, table, d(5, 1), api.OK)
	table = made(t, d(api.MaxNumber, 0), c(api.MaxNumber))
	wantCheck(t, table, d(api.MaxNumber, 1), api.ErrFenced)
}

func TestP8_2_SeqsOfData(t *testing.T) {
	table := made(t, d(2, 0), d(2, 1), d(2, 2))
	for seq, want := range []api.Errno{api.ErrDouble, api.ErrDouble, api.ErrDouble, api.OK, api.ErrOrder, api.ErrOrder} {
		wantCheck(t, table, d(2, int64(seq)), want)
	}
	wantCheck(t, table, d(2, api.MaxNumber), api.ErrOrder)
	table.Append(c(2))
	wantCheck(t, table, d(3, 0), api.OK)
	for _, seq := range []int64{1, 2, 3, 4, api.MaxNumber} {
		wantCheck(t, table, d(3, seq), api.ErrOrder)
	}
}

func TestP8_2_NextIsBehindTheGreatestSeq(t *testing.T) {
	table := made(t, d(2, 7), d(2, 3), d(2, 3))
	wantWriter(t, table, 0, api.Writer{High: 2, Next: 8, Opens: []api.Open{{Num: 2, First: 0}}})
	wantCheck(t, table, d(2, 5), api.ErrDouble)
	wantCheck(t, table, d(2, 8), api.OK)
	table.Append(d(1, 50))
	wantWriter(t, table, 0, api.Writer{High: 2, Next: 8, Opens: []api.Open{{Num: 2, First: 0}, {Num: 1, First: 3}}})
	table.Append(d(3, 0))
	table.Append(d(2, 60))
	wantWriter(t, table, 0, api.Writer{High: 3, Next: 1, Opens: []api.Open{{Num: 2, First: 0}, {Num: 1, First: 3}, {Num: 3, First: 4}}})
	table.Append(c(4))
	wantWriter(t, table, 0, api.Writer{High: 4, Next: 0, Marked: 4, Opens: []api.Open{{Num: 2, First: 0}, {Num: 1, First: 3}, {Num: 3, First: 4}}})
}

func TestP8_2_AtTheGreatestNumbers(t *testing.T) {
	table := made(t, in(api.MaxNumber, d(api.MaxNumber, api.MaxNumber)))
	wantWriter(t, table, 0, api.Writer{High: api.MaxNumber, Next: api.MaxNumber + 1, Opens: []api.Open{{Num: api.MaxNumber, First: 0}}})
	wantCheck(t, table, in(api.MaxNumber, d(api.MaxNumber, api.MaxNumber)), api.ErrDouble)
	wantCheck(t, table, in(api.MaxNumber, d(api.MaxNumber, 0)), api.ErrDouble)
	wantCheck(t, table, in(api.MaxNumber, c(api.MaxNumber)), api.OK)
	wantCheck(t, table, in(api.MaxNumber-1, c(api.MaxNumber)), api.ErrEpoch)
}

func TestP8_2_DataBesideOpenTransactions(t *testing.T) {
	table := made(t, d(1, 0))
	wantCheck(t, table, d(2, 0), api.ErrOpen)
	wantCheck(t, table, d(2, 5), api.ErrOpen)
	wantCheck(t, table, d(1, 1), api.OK)
	for id := 1; id < api.MaxIDs; id++ {
		wantCheck(t, table, by(id, d(1, 0)), api.OK)
		wantCheck(t, table, by(id, d(2, 0)), api.OK)
		wantCheck(t, table, by(id, c(2)), api.OK)
	}
	table.Append(a(1))
	wantCheck(t, table, d(2, 0), api.OK)
	// One of High does not go on while an elder one is open.
	table = made(t, d(1, 0), d(2, 0))
	wantCheck(t, table, d(2, 1), api.ErrOpen)
	wantCheck(t, table, d(2, 0), api.ErrOpen)
	wantCheck(t, table, d(3, 0), api.ErrOpen)
	table.Append(c(1))
	wantCheck(t, table, d(2, 1), api.OK)
	wantCheck(t, table, d(2, 0), api.ErrDouble)
}

func TestP8_2_Markers(t *testing.T) {
	for _, marker := range []func(int64) api.Entry{c, a} {
		wantCheck(t, made(t, n()), marker(3), api.OK)
		wantCheck(t, made(t, d(3, 0)), marker(3), api.OK)
		wantCheck(t, made(t, d(3, 4)), marker(3), api.OK)
		for _, ended := range list(c(3), a(3)) {
			table := made(t, d(3, 0), ended)
			wantCheck(t, table, marker(3), api.ErrDouble)
			wantCheck(t, table, marker(2), api.ErrDouble)
			wantCheck(t, table, marker(1), api.ErrDouble)
			wantCheck(t, table, marker(4), api.OK)
			wantCheck(t, table, marker(api.MaxNumber), api.OK)
		}
		table := made(t, d(3, 0))
		wantCheck(t, table, marker(2), api.ErrFenced)
		wantCheck(t, table, marker(4), api.ErrFenced)
		table = made(t, d(3, 0), d(5, 0))
		wantCheck(t, table, marker(3), api.ErrFenced)
		wantCheck(t, table, marker(4), api.ErrFenced)
		wantCheck(t, table, marker(5), api.ErrFenced)
		table.Append(c(3))
		wantCheck(t, table, marker(3), api.ErrDouble)
		wantCheck(t, table, marker(4), api.ErrFenced)
		wantCheck(t, table, marker(5), api.OK)
		// What another ID has open, or ended, is nothing to it.
		table = made(t, by(1, d(5, 0)), by(2, c(9)))
		wantCheck(t, table, marker(1), api.OK)
		wantCheck(t, table, by(2, marker(9)), api.ErrDouble)
		wantCheck(t, table, by(1, marker(6)), api.ErrFenced)
	}
}

func TestP8_2_AMarkerAheadOfTheData(t *testing.T) {
	table := made(t, c(2), d(2, 0), d(2, 1))
	wantWriter(t, table, 0, api.Writer{High: 2, Next: 2, Marked: 2})
	wantStable(t, table, 3)
	// One below Marked that has no marker itself is open all the same.
	table = made(t, c(2), d(1, 0))
	wantWriter(t, table, 0, api.Writer{High: 2, Next: 0, Marked: 2, Opens: []api.Open{{Num: 1, First: 1}}})
	wantStable(t, table, 1)
	wantCheck(t, table, d(3, 0), api.ErrOpen)
	wantCheck(t, table, c(1), api.ErrDouble)
	wantCheck(t, table, c(3), api.ErrFenced)
	table.Append(a(1))
	wantWriter(t, table, 0, api.Writer{High: 2, Next: 0, Marked: 2})
	wantStable(t, table, 3)
}

func TestP8_2_OpensByTheirFirstData(t *testing.T) {
	table := made(t, d(5, 0), d(9, 3), n(), d(1, 0), d(5, 1), d(7, 0), d(9, 0), by(1, d(2, 0)))
	opens := []api.Open{{Num: 5, First: 0}, {Num: 9, First: 1}, {Num: 1, First: 3}, {Num: 7, First: 5}}
	wantWriter(t, table, 0, api.Writer{High: 9, Next: 4, Opens: opens})
	wantWriter(t, table, 1, api.Writer{High: 2, Next: 1, Opens: []api.Open{{Num: 2, First: 7}}})
	table.Append(c(9))
	wantWriter(t, table, 0, api.Writer{High: 9, Next: 4, Marked: 9, Opens: slices.Delete(slices.Clone(opens), 1, 2)})
	table.Append(a(5))
	wantWriter(t, table, 0, api.Writer{High: 9, Next: 4, Marked: 9, Opens: opens[2:]})
	wantStable(t, table, 3)
	// Many, so that the order is none of a map's.
	table = New()
	var want []api.Open
	for i := range 500 {
		num := int64(i*137%500) + 1
		table.Append(d(num, 0))
		want = append(want, api.Open{Num: num, First: i})
	}
	for range 20 {
		wantWriter(t, table, 0, api.Writer{High: 500, Next: 1, Opens: want})
	}
}

func TestP8_2_ATransactionWhoseFirstDataWereTruncated(t *testing.T) {
	table := made(t, n(), d(4, 0), d(4, 1))
	table.Truncate(2)
	wantWriter(t, table, 0, api.Writer{High: 4, Next: 1, Opens: []api.Open{{Num: 4, First: 1}}})
	wantCheck(t, table, d(4, 1), api.OK)
	table.Truncate(1)
	wantWriter(t, table, 0, api.Writer{})
	wantStable(t, table, 1)
	wantCheck(t, table, d(4, 1), api.ErrOrder)
	wantCheck(t, table, d(1, 0), api.OK)
	table.Append(n())
	table.Append(d(4, 1))
	wantWriter(t, table, 0, api.Writer{High: 4, Next: 2, Opens: []api.Open{{Num: 4, First: 2}}})
	wantStable(t, table, 2)
}

func TestP8_2_AMarkerThatWasTruncated(t *testing.T) {
	table := made(t, d(1, 0), c(1), d(2, 0), a(2), d(2, 1))
	wantStable(t, table, 5)
	table.Truncate(3)
	wantWriter(t, table, 0, api.Writer{High: 2, Next: 1, Marked: 1, Opens: []api.Open{{Num: 2, First: 2}}})
	wantStable(t, table, 2)
	table.Truncate(1)
	wantWriter(t, table, 0, api.Writer{High: 1, Next: 1, Opens: []api.Open{{Num: 1, First: 0}}})
	wantStable(t, table, 0)
	wantCheck(t, table, c(1), api.OK)
	wantCheck(t, table, d(1, 1), api.OK)
}

func TestP8_2_Stable(t *testing.T) {
	rows := []struct {
		l    []api.Entry
		want int
	}{
		{nil, 0}, {list(n()), 1}, {list(c(1)), 1}, {list(d(1, 0), c(1)), 2}, {list(d(1, 0), a(1)), 2},
		{list(d(1, 0)), 0}, {list(d(1, 0), n(), n()), 0}, {list(n(), n(), d(1, 0)), 2},
		{list(n(), d(1, 0), d(1, 1), n()), 1}, {list(d(1, 0), c(1), n(), d(2, 0)), 3},
		{list(d(1, 0), by(1, d(1, 0)), c(1)), 1}, {list(d(1, 0), by(1, d(1, 0)), by(1, c(1))), 0},
		{list(by(3, d(9, 0)), by(2, d(9, 0)), by(3, a(9)), by(2, a(9))), 4},
		{list(d(1, 0), by(3, c(1))), 0}, {list(d(1, 0), c(2)), 0}, {list(d(2, 0), d(1, 0), c(2)), 1},
		{append(many(api.MaxLog-1), d(1, 0)), api.MaxLog - 1}, {append(list(d(1, 0)), many(api.MaxLog-1)...), 0},
		{append(many(api.MaxLog-1), c(1)), api.MaxLog}, {append(append(list(d(1, 0)), many(api.MaxLog-2)...), c(1)), api.MaxLog},
	}
	for _, r := range rows {
		wantStable(t, made(t, r.l...), r.want)
	}
}

func TestP8_2_SeveralErrorsAtOnce(t *testing.T) {
	rows := []struct {
		l    []api.Entry
		e    api.Entry
		want api.Errno
	}{
		{list(in(2, c(5)), in(2, d(9, 0))), in(1, by(4, d(5, 0))), api.ErrArg},
		{list(in(2, c(5)), in(2, d(9, 0))), in(1, d(5, 0)), api.ErrEpoch},
		{list(in(2, c(5)), in(2, d(9, 0))), in(1, c(5)), api.ErrEpoch},
		{list(in(2, d(9, 0))), in(1, d(10, 7)), api.ErrEpoch},
		{list(in(2, d(9, 0))), in(1, d(9, 0)), api.ErrEpoch},
		{list(c(5), d(9, 0)), d(5, 0), api.ErrFenced}, // and ErrOpen, ErrOrder
		{list(d(8, 0), d(9, 0)), d(8, 0), api.ErrFenced},
		{list(d(1, 0), d(9, 0)), d(9, 0), api.ErrOpen},   // and ErrDouble
		{list(d(1, 0), d(9, 0)), d(9, 5), api.ErrOpen},   // and ErrOrder
		{list(d(1, 0)), d(2, 5), api.ErrOpen},            // and ErrOrder
		{list(d(9, 0), d(9, 5)), d(9, 1), api.ErrDouble}, // and ErrOrder
		{list(d(9, 0), c(5)), c(5), api.ErrDouble},       // and ErrFenced
		{list(d(9, 0), c(5)), a(4), api.ErrDouble},
		{list(c(9), d(8, 0)), c(9), api.ErrDouble},
	}
	for _, r := range rows {
		table := made(t, r.l...)
		wantCheck(t, table, r.e, r.want)
		if plain := plainCheck(r.l, r.e); plain != r.want {
			t.Errorf("the plain way: %s, %s: %v", text(r.l...), text(r.e), plain)
		}
		agrees(t, table, r.l)
	}
}

func TestP8_2_EntriesThatMayNotBe(t *testing.T) {
	table := made(t, n(), d(1, 0))
	for _, e := range wrongEntries() {
		if plainMay(e) {
			t.Errorf("%v may be, says the plain way", e)
		}
		wantCheck(t, table, e, api.ErrArg)
		wantCheck(t, New(), e, api.ErrArg)
	}
	for _, e := range edgeEntries() {
		wantCheck(t, New(), e, plainCheck(nil, e))
		wantCheck(t, table, e, plainCheck(table.Log(), e))
	}
}

func TestP8_2_CheckChangesNothing(t *testing.T) {
	l := list(d(1, 0), by(1, c(3)), n())
	table := made(t, l...)
	for _, e := range append(append(edgeEntries(), wrongEntries()...), d(1, 1), c(1), a(1), by(1, d(4, 0)), in(2, n())) {
		table.Check(e)
		table.Check(e)
	}
	agrees(t, table, l)
	wantCheck(t, table, n(), api.OK)
	wantCheck(t, table, d(1, 1), api.OK)
}

func TestP8_2_WhatWriterToldIsNewMemory(t *testing.T) {
	table := made(t, d(1, 0), d(2, 0))
	want := api.Writer{High: 2, Next: 1, Opens: []api.Open{{Num: 1, First: 0}, {Num: 2, First: 1}}}
	told, _ := table.Writer(0)
	told.Opens[0], told.Opens[1] = api.Open{Num: 7, First: 7}, api.Open{Num: 8, First: 8}
	_ = append(told.Opens[:0], api.Open{}, api.Open{}, api.Open{})
	wantWriter(t, table, 0, want)
	told, _ = table.Writer(0)
	table.Append(c(1))
	table.Append(d(2, 1))
	table.Truncate(1)
	if told.High != 2 || told.Next != 1 || !slices.Equal(told.Opens, want.Opens) {
		t.Error(told)
	}
}

func TestP8_3_ACopyGoesOnApart(t *testing.T) {
	l := list(n(), d(1, 0), by(2, d(3, 0)), by(2, c(3)))
	table := made(t, l...)
	other := table.Copy()
	if other == nil || other == table || !Same(table, other) {
		t.Fatal("no copy")
	}
	agrees(t, other, l)
	other.Append(c(1))
	other.Append(by(2, d(4, 0)))
	agrees(t, table, l)
	agrees(t, other, append(slices.Clone(l), c(1), by(2, d(4, 0))))
	wantCheck(t, table, c(1), api.OK)
	wantCheck(t, other, c(1), api.ErrDouble)
	table.Append(d(1, 1))
	table.Append(d(2, 0))
	agrees(t, table, append(slices.Clone(l), d(1, 1), d(2, 0)))
	agrees(t, other, append(slices.Clone(l), c(1), by(2, d(4, 0))))
	table.Truncate(1)
	table.Append(a(9))
	agrees(t, table, list(n(), a(9)))
	agrees(t, other, append(slices.Clone(l), c(1), by(2, d(4, 0))))
	other.Truncate(0)
	agrees(t, table, list(n(), a(9)))
	agrees(t, other, nil)
}

func TestP8_3_CopiesOfAll(t *testing.T) {
	for _, l := range [][]api.Entry{nil, list(n()), list(c(2), d(1, 0), d(2, 3)), many(api.MaxLog)} {
		table := made(t, l...)
		other := table.Copy()
		agrees(t, other, l)
		agrees(t, other.Copy(), l)
		if !Same(table, other) || !Same(other, table) || !Same(other, other.Copy()) {
			t.Errorf("%s: not the same", text(l...))
		}
	}
	// What a copy was truncated to has no room in common with what it was copied from.
	table := made(t, n(), n(), n())
	table.Truncate(1)
	other := table.Copy()
	table.Append(d(1, 0))
	other.Append(c(1))
	agrees(t, table, list(n(), d(1, 0)))
	agrees(t, other, list(n(), c(1)))
}

func TestP8_3_Same(t *testing.T) {
	l := list(n(), d(1, 0), by(1, d(1, 0)), c(1))
	other := func(at int, e api.Entry) []api.Entry {
		x := slices.Clone(l)
		x[at] = e
		return x
	}
	unlike := [][]api.Entry{
		nil, l[:3], l[1:], append(slices.Clone(l), n()), append(slices.Clone(l), d(1, 0)),
		other(3, a(1)), other(3, c(2)), other(3, by(1, c(1))), other(3, in(2, c(1))), other(3, d(1, 1)),
		other(0, worth(1, n())), other(0, worth(-1, n())), other(1, worth(7, d(1, 0))), other(1, d(2, 0)), other(1, d(1, 1)),
		other(2, by(2, d(1, 0))), list(n(), by(1, d(1, 0)), d(1, 0), c(1)),
	}
	table := made(t, l...)
	if !Same(table, table) || !Same(table, made(t, l...)) || !Same(New(), New()) || !Same(New(), made(t)) {
		t.Error("what is the same is not")
	}
	for _, x := range unlike {
		b := made(t, x...)
		if Same(table, b) || Same(b, table) {
			t.Errorf("%s and %s are the same", text(l...), text(x...))
		}
		if !Same(b, b.Copy()) {
			t.Errorf("%s is not the same", text(x...))
		}
	}
}

func TestP8_3_SameHangsOnTheLogAlone(t *testing.T) {
	l := list(n(), d(1, 0), c(1))
	table := New()
	for _, e := range append(slices.Clone(l), d(2, 0), n()) {
		table.Append(e)
		table.Check(e)
	}
	table.Append(api.Entry{})
	table.Truncate(9)
	if Same(table, made(t, l...)) {
		t.Error("same, though longer")
	}
	table.Truncate(3)
	if !Same(table, made(t, l...)) || !Same(table.Copy(), made(t, l...)) {
		t.Error("not the same behind Truncate")
	}
	table.Truncate(0)
	if !Same(table, New()) {
		t.Error("not the same as New")
	}
}

func TestP8_1_P8_2_P8_3_NoTable(t *testing.T) {
	for i, no := range nones() {
		for _, e := range list(n(), d(1, 0), c(1), api.Entry{}, by(9, d(1, 0))) {
			if check, err := no.Check(e), no.Append(e); check != api.ErrNil || err != api.ErrNil {
				t.Error(i, check, err)
			}
		}
		for _, x := range []int{0, 1, -1, api.MaxIDs, math.MinInt, math.MaxInt} {
			if err := no.Truncate(x); err != api.ErrNil {
				t.Error(i, x, err)
			}
			if w, err := no.Writer(x); w.High != 0 || w.Next != 0 || w.Marked != 0 || w.Opens != nil || err != api.ErrNil {
				t.Error(i, x, w, err)
			}
		}
		if no.Stable() != 0 || no.Len() != 0 || no.Log() != nil || no.Copy() != nil {
			t.Error(i, no.Stable(), no.Len(), no.Log(), no.Copy())
		}
		for j, other := range nones() {
			if !Same(no, other) {
				t.Error(i, j, "not the same")
			}
		}
		for _, table := range []*Table{New(), made(t, n())} {
			if Same(no, table) || Same(table, no) {
				t.Error(i, "the same as a table of", table.Len())
			}
		}
	}
	refused, err := Of(list(api.Entry{}))
	if err != api.ErrArg || refused.Append(n()) != api.ErrNil || refused.Len() != 0 {
		t.Error(err)
	}
}

// dice are picks that are the same in each run.
type dice uint64

func (p *dice) pick(n int) int {
	*p = *p*6364136223846793005 + 1442695040888963407
	return int(uint64(*p)>>33) % n
}

// near is a number near another one, mostly that one.
func (p *dice) near(x, least int64) int64 {
	return max(least, x+[...]int64{0, 0, 0, 0, 1, 1, -1, 2, -3}[p.pick(9)])
}

// entry is one that may be, near to what would go on with a table.
func (p *dice) entry(table *Table) api.Entry {
	epoch := max(1, table.epoch())
	if p.pick(12) == 0 {
		epoch = p.near(epoch, 1)
	}
	id := p.pick(api.MaxIDs+1) - 1
	if id < 0 {
		return worth(int64(p.pick(100)-50), in(epoch, n()))
	}
	w, _ := table.Writer(id)
	e := by(id, in(epoch, d(p.near(max(w.High, 1), 1), p.near(w.Next, 0))))
	switch p.pick(5) {
	case 0:
		e.Seq, e.Kind = 0, api.EntryCommit+api.EntryKind(p.pick(2))
	case 1:
		e.Num, e.Seq = w.High+1, 0
	}
	return e
}

// deepens goes through all rows of entries that Append takes, of at most so many; it appends and truncates one table, and tells how many logs there were.
func deepens(t *testing.T, table *Table, l, letters []api.Entry, steps int) int {
	agrees(t, table, l)
	for _, e := range letters {
		wantCheck(t, table, e, plainCheck(l, e))
	}
	if t.Failed() {
		t.FailNow()
	}
	logs := 1
	if steps == 0 {
		return logs
	}
	for _, e := range letters {
		next, want := plainAppend(l, e)
		if err := table.Append(e); err != want {
			t.Fatalf("%s: Append(%s): %v, want %v", text(l...), text(e), err, want)
		}
		if want != api.OK {
			continue
		}
		logs += deepens(t, table, next, letters, steps-1)
		if err := table.Truncate(len(l)); err != api.OK {
			t.Fatal(err)
		}
	}
	return logs
}

func TestP8_1_P8_2_AllShortRows(t *testing.T) {
	one := list(d(1, 0), d(1, 1), d(2, 0), d(2, 1), d(3, 0), c(1), a(2), c(3))
	several := list(n(), in(2, n()), d(1, 0), d(1, 1), in(2, d(2, 0)), c(1), a(2), by(3, d(1, 0)), by(3, d(2, 0)), in(2, by(3, c(1))), api.Entry{})
	if logs := deepens(t, New(), nil, one, 5); logs != 1+8+64+512+4096+32768 {
		t.Error(logs)
	}
	if logs := deepens(t, New(), nil, several, 4); logs < 1000 {
		t.Error(logs)
	}
}

func TestP8_1_OfAllShortRows(t *testing.T) {
	letters := list(n(), in(2, d(1, 0)), d(2, 1), c(2), in(2, by(1, a(1))), by(1, d(1, 0)), by(4, d(1, 0)), in(0, n()))
	rows := [][]api.Entry{nil}
	for i := 0; i < len(rows); i++ {
		l, want := plainOf(rows[i])
		table, err := Of(rows[i])
		if err != want || (table == nil) != (want != api.OK) {
			t.Fatalf("Of(%s): %v, want %v", text(rows[i]...), err, want)
		}
		if want == api.OK {
			agrees(t, table, l)
		}
		if len(rows[i]) < 4 {
			for _, e := range letters {
				rows = append(rows, append(slices.Clone(rows[i]), e))
			}
		}
	}
}

// TestP8_1_P8_2_P8_3_LongRows: all that come are appended, whatever Check says.
func TestP8_1_P8_2_P8_3_LongRows(t *testing.T) {
	met := map[api.Errno]int{}
	most := 0
	for seed := range 60 {
		p := dice(seed)
		table, l := New(), []api.Entry(nil)
		for step := range 250 {
			e := p.entry(table)
			want := plainCheck(l, e)
			met[want]++
			wantCheck(t, table, e, want)
			next, err := plainAppend(l, e)
			if got := table.Append(e); got != err {
				t.Fatalf("%s: Append(%s): %v, want %v", text(l...), text(e), got, err)
			}
			l = next
			if p.pick(40) == 0 {
				l = l[:p.pick(len(l)+1)]
				table.Truncate(len(l))
			}
			if p.pick(40) == 0 {
				table = table.Copy()
			}
			if step%5 == 0 {
				agrees(t, table, l)
			}
			w, _ := table.Writer(p.pick(api.MaxIDs))
			most = max(most, len(w.Opens))
		}
		agrees(t, table, l)
		again, _ := Of(l)
		if !Same(table, again) {
			t.Error(seed, "not the same")
		}
	}
	for _, err := range []api.Errno{api.OK, api.ErrEpoch, api.ErrFenced, api.ErrOpen, api.ErrDouble, api.ErrOrder} {
		if met[err] < 100 {
			t.Errorf("%v was met %d times", err, met[err])
		}
	}
	if most < 4 {
		t.Error("too few were open at once:", most)
	}
}

func TestP8_1_P8_2_EntriesAreLeftAnywhere(t *testing.T) {
	l := list(n(), d(1, 0), c(1), n())
	for stop := range len(l) + 2 {
		var got []api.Entry
		for at, e := range log(l).all() {
			if at == stop {
				break
			}
			got = append(got, e)
		}
		if !slices.Equal(got, l[:min(stop, len(l))]) {
			t.Error(stop, text(got...))
		}
	}
	for stop := range 5 {
		var got []string
		for k, v := range byValue(map[string]int{"c": 1, "a": 3, "b": 2}) {
			if v > stop {
				break
			}
			got = append(got, k)
		}
		if !slices.Equal(got, []string{"c", "b", "a"}[:min(stop, 3)]) {
			t.Error(stop, got)
		}
	}
}
