package replica

import (
	"maps"
	"math"
	"slices"

	"waystation/api"
)

// copies is what both ways can.
type copies interface {
	Learn(v api.View) api.Errno
	Append(e api.Entry) (int, api.Errno)
	Flush() api.Errno
	Ask() (api.Fetch, api.Errno)
	Serve(f api.Fetch, most int) (api.Reply, api.Errno)
	Take(p api.Reply) api.Errno
	Propose(isr []int) (api.Alter, api.Errno)
	Crash(keep int) api.Errno
	Log() []api.Entry
	Standing() api.Standing
	Visible() []api.Entry
	Has(id int, num, seq int64) (bool, api.Errno)
}

// plain is the second, plain way: each entry says of itself whether it lasts and whether it is committed; lists are sets; what is not so is not there. It asks no other layer.
type plain struct {
	self, least int
	entries     []plainEntry
	epoch       int64
	follows     bool
	office      *plainOffice // nil, if it does not lead
}

type plainEntry struct {
	api.Entry
	lasts, committed bool
}

type plainOffice struct {
	version, begin int64
	step, counting map[int]bool
	knows          map[int]int
}

func newPlain(self, least int) *plain { return &plain{self: self, least: least} }

func (p *plain) another() *plain {
	c := *p
	c.entries = slices.Clone(p.entries)
	if p.office != nil {
		o := *p.office
		o.step, o.counting, o.knows = maps.Clone(o.step), maps.Clone(o.counting), maps.Clone(o.knows)
		c.office = &o
	}
	return &c
}

func setOf(l []int) map[int]bool {
	set := map[int]bool{}
	for _, x := range l {
		set[x] = true
	}
	return set
}

func listOf(set map[int]bool) []int { return slices.Sorted(maps.Keys(set)) }

// plainRises tells whether a list is that of its set, and of brokers alone.
func plainRises(l []int) bool {
	for x := range setOf(l) {
		if x != 0 && x != 1 && x != 2 && x != 3 {
			return false
		}
	}
	return slices.Equal(l, listOf(setOf(l)))
}

// plainMay tells whether an entry may be, but for its epoch.
func plainMay(e api.Entry) bool {
	data, marker := e.Kind == 1, e.Kind == 2 || e.Kind == 3
	switch {
	case e.Value < math.MinInt32 || e.Value > math.MaxInt32 || e.Num > math.MaxInt32 || e.Seq < 0 || e.Seq > math.MaxInt32:
		return false
	case e.ID == -1:
		return data && e.Num == 0 && e.Seq == 0
	case e.ID < 0 || e.ID > 3 || e.Num < 1:
		return false
	}
	return data || marker && e.Seq == 0 && e.Value == 0
}

// plainRefuses is layer 8's Check of an entry that may be.
func plainRefuses(l []api.Entry, e api.Entry) api.Errno {
	if len(l) == 4096 {
		return api.ErrLong
	}
	if len(l) > 0 && l[len(l)-1].Epoch > e.Epoch {
		return api.ErrEpoch
	}
	if e.ID == -1 {
		return api.OK
	}
	var high, marked, next int64
	open := map[int64]bool{}
	for _, x := range l {
		if x.ID == e.ID {
			high = max(high, x.Num)
			open[x.Num] = open[x.Num] || x.Kind == 1
		}
	}
	for _, x := range l {
		switch {
		case x.ID != e.ID:
		case x.Kind != 1:
			marked = max(marked, x.Num)
			open[x.Num] = false
		case x.Num == high:
			next = max(next, x.Seq+1)
		}
	}
	another := false
	for num, is := range open {
		another = another || is && num != e.Num
	}
	switch {
	case e.Kind != 1 && e.Num <= marked:
		return api.ErrDouble
	case e.Kind != 1 && (e.Num < high || another):
		return api.ErrFenced
	case e.Kind != 1:
		return api.OK
	case e.Num <= marked || e.Num < high:
		return api.ErrFenced
	case another:
		return api.ErrOpen
	case e.Num == high && e.Seq < next:
		return api.ErrDouble
	case e.Num == high && e.Seq != next || e.Num > high && e.Seq != 0:
		return api.ErrOrder
	}
	return api.OK
}

// count: an entry is committed once it lasts of all that count.
func (p *plain) count() {
	for at := range p.entries {
		all := true
		for broker := range p.office.counting {
			n, known := p.office.knows[broker]
			if broker == p.self {
				all = all && p.entries[at].lasts
			} else {
				all = all && known && n > at
			}
		}
		p.entries[at].committed = p.entries[at].committed || all
	}
}

func (p *plain) Learn(v api.View) api.Errno {
	none := v.Leader == -1
	switch {
	case v.Leader < -1 || v.Leader > 3 || v.Epoch < 0 || v.Epoch > math.MaxInt32 || v.Version < 0 || v.Version > math.MaxInt32:
		return api.ErrArg
	case len(v.ISR) == 0 || !plainRises(v.ISR) || !none && !setOf(v.ISR)[v.Leader]:
		return api.ErrArg
	case v.Epoch < p.epoch:
		return api.ErrOld
	case v.Epoch > p.epoch:
		p.epoch, p.office = v.Epoch, nil
		p.follows = !none && v.Leader != p.self
		if v.Leader == p.self {
			p.office = &plainOffice{v.Version, int64(len(p.entries)), setOf(v.ISR), setOf(v.ISR), map[int]int{}}
			p.count()
		}
		return api.OK
	case p.office != nil && v.Version <= p.office.version:
		return api.ErrOld
	case p.office != nil:
		p.office.version, p.office.step, p.office.counting = v.Version, setOf(v.ISR), setOf(v.ISR)
		p.count()
		return api.OK
	case p.follows:
		return api.OK
	case none || v.Leader == p.self:
		return api.ErrOld
	}
	p.follows = true
	return api.OK
}

func (p *plain) Append(e api.Entry) (int, api.Errno) {
	switch {
	case !plainMay(e):
		return 0, api.ErrArg
	case p.office == nil:
		return 0, api.ErrLead
	case len(p.office.step) < p.least:
		return 0, api.ErrFew
	}
	e.Epoch = p.epoch
	if err := plainRefuses(p.Log(), e); err != api.OK {
		return 0, err
	}
	p.entries = append(p.entries, plainEntry{Entry: e})
	return len(p.entries) - 1, api.OK
}

func (p *plain) Flush() api.Errno {
	for at := range p.entries {
		p.entries[at].lasts = true
	}
	if p.office != nil {
		p.count()
	}
	return api.OK
}

// epochAt is that of the last of the first n entries, 0 of none.
func (p *plain) epochAt(n int) int64 {
	if n == 0 {
		return 0
	}
	return p.entries[n-1].Epoch
}

// flushed and high are how many entries last, and are committed.
func (p *plain) flushed() (n int) {
	for _, e := range p.entries {
		if e.lasts {
			n++
		}
	}
	return n
}

func (p *plain) high() (n int) {
	for _, e := range p.entries {
		if e.committed {
			n++
		}
	}
	return n
}

func (p *plain) Ask() (api.Fetch, api.Errno) {
	if !p.follows {
		return api.Fetch{}, api.ErrLead
	}
	n := len(p.entries)
	return api.Fetch{From: p.self, Epoch: p.epoch, Offset: n, Last: p.epochAt(n), Flushed: p.flushed()}, api.OK
}

func (p *plain) Serve(f api.Fetch, most int) (api.Reply, api.Errno) {
	switch {
	case f.From < 0 || f.From > 3 || f.From == p.self || f.Epoch < 0 || f.Offset < 0 || f.Last < 0 || f.Flushed < 0 || f.Flushed > f.Offset || most < 0:
		return api.Reply{}, api.ErrArg
	case p.office == nil:
		return api.Reply{}, api.ErrLead
	case f.Epoch != p.epoch:
		return api.Reply{}, api.ErrOld
	}
	a := api.Reply{Epoch: p.epoch, Base: f.Offset, Last: f.Last}
	if f.Offset > len(p.entries) || p.epochAt(f.Offset) != f.Last {
		a.Cut = true
		for at, e := range p.entries {
			if e.Epoch <= f.Last {
				a.CutEpoch, a.CutEnd = e.Epoch, at+1
			}
		}
		a.High = p.high()
		return a, api.OK
	}
	if n, known := p.office.knows[f.From]; !known || f.Flushed > n {
		p.office.knows[f.From] = f.Flushed
	}
	p.count()
	for at, e := range p.Log() {
		if at >= f.Offset && at-f.Offset < most {
			a.Entries = append(a.Entries, e)
		}
	}
	a.High = p.high()
	return a, api.OK
}

func (p *plain) Take(a api.Reply) api.Errno {
	bad := a.Epoch < 0 || a.Base < 0 || a.Last < 0 || a.CutEpoch < 0 || a.CutEnd < 0 || a.High < 0
	for i, e := range a.Entries {
		bad = bad || !plainMay(e) || e.Epoch < 1 || e.Epoch > math.MaxInt32 || e.Epoch < a.Last || i > 0 && e.Epoch < a.Entries[i-1].Epoch
	}
	n := len(p.entries)
	switch {
	case bad:
		return api.ErrArg
	case !p.follows:
		return api.ErrLead
	case a.Epoch != p.epoch || a.Base != n || a.Last != p.epochAt(n):
		return api.ErrOld
	case a.Cut:
		for n > 0 && (n == a.Base || n > a.CutEnd || p.entries[n-1].Epoch > a.CutEpoch) {
			n--
		}
		p.entries = p.entries[:n]
		return api.OK
	case n+len(a.Entries) > 4096:
		return api.ErrLong
	}
	for _, e := range a.Entries {
		p.entries = append(p.entries, plainEntry{Entry: e})
	}
	for at := range p.entries {
		p.entries[at].committed = p.entries[at].committed || at < a.High
	}
	return api.OK
}

func (p *plain) Propose(isr []int) (api.Alter, api.Errno) {
	switch {
	case !plainRises(isr) || !setOf(isr)[p.self]:
		return api.Alter{}, api.ErrArg
	case p.office == nil:
		return api.Alter{}, api.ErrLead
	}
	for _, broker := range isr {
		n, known := p.office.knows[broker]
		if !p.office.step[broker] && (!known || n < p.high() || int64(n) < p.office.begin) {
			return api.Alter{}, api.ErrBehind
		}
	}
	for _, broker := range isr {
		p.office.counting[broker] = true
	}
	return api.Alter{Leader: p.self, Epoch: p.epoch, Version: p.office.version, ISR: listOf(setOf(isr))}, api.OK
}

func (p *plain) Crash(keep int) api.Errno {
	if keep < 0 {
		return api.ErrArg
	}
	var left []plainEntry
	for _, e := range p.entries {
		if !e.lasts && keep > 0 {
			e.lasts = true
			keep--
		}
		if e.lasts {
			left = append(left, e)
		}
	}
	p.entries, p.office, p.follows = left, nil, false
	return api.OK
}

func (p *plain) Log() []api.Entry {
	var l []api.Entry
	for _, e := range p.entries {
		l = append(l, e.Entry)
	}
	return l
}

func (p *plain) Standing() api.Standing {
	s := api.Standing{Role: 1, Epoch: p.epoch, Flushed: p.flushed(), High: p.high()}
	if p.follows {
		s.Role = 2
	}
	if p.office == nil {
		return s
	}
	s.Role, s.Version, s.Begin = 3, p.office.version, int(p.office.begin)
	s.ISR, s.Counts = listOf(p.office.step), listOf(p.office.counting)
	for broker := 0; broker < 4; broker++ {
		n, known := p.office.knows[broker]
		if !known {
			n = -1
		}
		s.Known = append(s.Known, n)
	}
	return s
}

// Visible looks at each entry ahead of the first one of an open transaction.
func (p *plain) Visible() []api.Entry {
	l := p.Log()[:p.high()]
	var seen []api.Entry
	for _, e := range l {
		markers, commits := 0, 0
		for _, x := range l {
			if x.Kind != 1 && x.ID == e.ID && x.Num == e.Num {
				markers++
			}
			if x.Kind == 2 && x.ID == e.ID && x.Num == e.Num {
				commits++
			}
		}
		if e.ID != -1 && markers == 0 {
			break
		}
		if e.Kind == 1 && (e.ID == -1 || commits > 0) {
			seen = append(seen, e)
		}
	}
	return seen
}

func (p *plain) Has(id int, num, seq int64) (bool, api.Errno) {
	if p.office == nil {
		return false, api.ErrLead
	}
	for _, e := range p.entries {
		if e.committed && e.Kind == 1 && e.ID == id && e.Num == num && e.Seq == seq {
			return true, api.OK
		}
	}
	return false, api.OK
}
