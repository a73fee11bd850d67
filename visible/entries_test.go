package visible

import (
	"math"
	"slices"

	"waystation/api"
)

// d, c, a are data and markers of ID 0, n is nobody's data; all of epoch 1.
func d(num int64) api.Entry { return api.Entry{Epoch: 1, Num: num, Kind: api.EntryData} }
func c(num int64) api.Entry { return api.Entry{Epoch: 1, Num: num, Kind: api.EntryCommit} }
func a(num int64) api.Entry { return api.Entry{Epoch: 1, Num: num, Kind: api.EntryAbort} }
func n() api.Entry          { return api.Entry{Epoch: 1, ID: -1, Kind: api.EntryData} }

// by is the same entry of another ID, in of another epoch, worth of another value, as of another Seq.
func by(id int, e api.Entry) api.Entry         { e.ID = id; return e }
func in(epoch int64, e api.Entry) api.Entry    { e.Epoch = epoch; return e }
func worth(value int64, e api.Entry) api.Entry { e.Value = value; return e }
func as(seq int64, e api.Entry) api.Entry      { e.Seq = seq; return e }

// list is some entries, joined several lists, one behind the other.
func list(l ...api.Entry) []api.Entry       { return l }
func joined(all ...[]api.Entry) []api.Entry { return slices.Concat(all...) }

// many is so many times the same entry.
func many(count int, e api.Entry) []api.Entry { return slices.Repeat(list(e), count) }

// wrongEntries are entries that may not be, each wrong in one part.
func wrongEntries() []api.Entry {
	var all []api.Entry
	change := func(right api.Entry, part func(e *api.Entry) *int64, wrong ...int64) {
		for _, x := range wrong {
			e := right
			*part(&e) = x
			all = append(all, e)
		}
	}
	epoch := func(e *api.Entry) *int64 { return &e.Epoch }
	num := func(e *api.Entry) *int64 { return &e.Num }
	seq := func(e *api.Entry) *int64 { return &e.Seq }
	value := func(e *api.Entry) *int64 { return &e.Value }
	for _, e := range list(n(), d(1), c(1), a(1)) {
		change(e, epoch, 0, -1, math.MinInt64, api.MaxNumber+1, 1<<32+1, math.MaxInt64)
		change(e, value, -1<<31-1, 1<<31, math.MinInt64, math.MaxInt64)
		change(e, seq, -1, math.MinInt64, api.MaxNumber+1, math.MaxInt64)
		change(e, num, -1, math.MinInt64, api.MaxNumber+1, 1<<32+1, math.MaxInt64)
		for _, kind := range []api.EntryKind{api.EntryNone, -1, 4, 257, math.MinInt, math.MaxInt} {
			x := e
			x.Kind = kind
			all = append(all, x)
		}
		for _, id := range []int{-2, api.MaxIDs, math.MinInt, math.MaxInt, 1 << 32} {
			all = append(all, by(id, e))
		}
	}
	change(n(), num, 1)
	change(n(), seq, 1)
	for _, e := range list(c(1), a(1)) {
		change(e, num, 0)
		change(e, seq, 1)
		change(e, value, 1, -1)
		all = append(all, by(-1, e))
	}
	change(d(1), num, 0)
	return append(all, api.Entry{}, by(-1, d(1)), by(0, n()), by(-1, api.Entry{Epoch: 1, Kind: api.EntryCommit}))
}

// edgeEntries are entries that may be, just so.
func edgeEntries() []api.Entry {
	l := list(n(), d(1), d(api.MaxNumber), as(api.MaxNumber, d(1)), as(api.MaxNumber, d(api.MaxNumber)), c(1), a(1), c(api.MaxNumber), a(api.MaxNumber))
	for _, e := range slices.Clone(l) {
		l = append(l, in(api.MaxNumber, e))
		if e.ID == 0 {
			l = append(l, by(api.MaxIDs-1, e))
		}
		if e.Kind == api.EntryData {
			l = append(l, worth(-1<<31, e), worth(1<<31-1, e))
		}
	}
	return l
}

// noLogs are lists of entries that may not be a log.
func noLogs() [][]api.Entry {
	all := [][]api.Entry{
		list(in(2, n()), in(1, n())), list(in(5, d(1)), in(5, c(1)), in(4, n())), list(n(), in(3, n()), in(2, n()), in(3, n())),
		list(in(api.MaxNumber, d(1)), in(api.MaxNumber-1, c(1))), list(in(2, d(1)), in(1, c(1)), in(2, n())),
		many(api.MaxLog+1, n()), many(api.MaxLog+1, d(1)), many(2*api.MaxLog, c(1)), many(1<<20, api.Entry{}),
		joined(many(api.MaxLog-1, in(2, n())), list(n())), joined(many(api.MaxLog-1, n()), list(c(0))), joined(many(api.MaxLog, n()), list(c(0))),
	}
	for _, e := range wrongEntries() {
		all = append(all, list(e), list(n(), e, n()), list(d(1), e, c(1)), list(d(1), c(1), e))
	}
	return all
}

// dice are picks that are the same in each run.
type dice uint64

func (p *dice) pick(n int) int {
	*p = *p*6364136223846793005 + 1442695040888963407
	return int(uint64(*p)>>33) % n
}

// entry is one that may go on with a log, of one of so many Nums of each ID from one on. Often it ends what has been open longest, else little would be stable.
func (p *dice) entry(l []api.Entry, from, nums int) api.Entry {
	epoch := int64(1)
	if len(l) > 0 {
		epoch = l[len(l)-1].Epoch + int64(p.pick(10)/9)
	}
	marker := []func(int64) api.Entry{c, c, a}[p.pick(3)]
	if stable := plainStable(l, len(l)); stable < len(l) && p.pick(4) == 0 {
		return in(epoch, by(l[stable].ID, marker(l[stable].Num)))
	}
	id, num := p.pick(api.MaxIDs+1)-1, int64(from+p.pick(nums))
	switch {
	case id < 0:
		return in(epoch, worth(int64(p.pick(100)-50), n()))
	case p.pick(8) == 0:
		return in(epoch, by(id, marker(num)))
	}
	return in(epoch, by(id, as(int64(p.pick(3)), d(num))))
}

// anyLog is one that may be, seldom a good one; goodLog is a good one.
func (p *dice) anyLog(length, nums int) []api.Entry {
	var l []api.Entry
	for at := range length {
		l = append(l, p.entry(l, 1+at/8, nums))
	}
	return l
}

func (p *dice) goodLog(length, nums int) []api.Entry {
	var l []api.Entry
	for at := 0; len(l) < length; at++ {
		if e := p.entry(l, 1+at/8, nums); !plainEnded(l, e) {
			l = append(l, e)
		}
	}
	return l
}

// shortLogs are all of at most so many entries of some letters, the shorter ones ahead.
func shortLogs(most int, letters ...api.Entry) [][]api.Entry {
	all := [][]api.Entry{nil}
	for i := 0; i < len(all); i++ {
		if len(all[i]) == most {
			break
		}
		for _, e := range letters {
			all = append(all, append(slices.Clone(all[i]), e))
		}
	}
	return all
}
