package cluster

import (
	"slices"

	"waystation/api"
	"waystation/meta"
	"waystation/replica"
)

// clusters is what a cluster and the plain way of one have in common.
type clusters interface {
	Step(x api.Choice) api.Errno
	Run(l ...api.Choice) []api.Errno
	Put(m api.Msg) api.Errno
	Bag() []api.Msg
	Meta() *meta.Meta
	Replica(part, broker int) (*replica.Replica, api.Errno)
	Init(id int) (int64, api.Errno)
	Add(id int, session int64, part int) (int64, api.Errno)
	End(id int, session int64, commit bool, offset int64) api.Errno
	Committed(part int) ([]api.Entry, api.Errno)
	Visible(part int) ([]api.Entry, api.Errno)
}

// place is where a replica is.
type place struct{ part, broker int }

// plain is a cluster, told a second time by the words of the chapter, one after the other.
type plain struct {
	f   api.Form
	m   *meta.Meta
	all map[place]*replica.Replica
	bag []api.Msg
}

func newPlain(f api.Form, least int) *plain {
	m, err := meta.New(f)
	if err != api.OK {
		panic(err)
	}
	p := &plain{f: f, m: m, all: map[place]*replica.Replica{}}
	for part := 0; part < f.Parts; part++ {
		for broker := 0; broker < f.Brokers; broker++ {
			if p.all[place{part, broker}], err = replica.New(broker, least); err != api.OK {
				panic(err)
			}
		}
	}
	return p
}

// another goes on apart.
func (p *plain) another() *plain {
	q := &plain{p.f, p.m.Copy(), map[place]*replica.Replica{}, p.Bag()}
	for at, r := range p.all {
		q.all[at] = r.Copy()
	}
	return q
}

// clone is a message in memory of its own.
func clone(m api.Msg) api.Msg {
	m.View.ISR = slices.Clone(m.View.ISR)
	m.Alter.ISR = slices.Clone(m.Alter.ISR)
	m.Reply.Entries = slices.Clone(m.Reply.Entries)
	return m
}

func (p *plain) puts(m api.Msg) {
	if len(p.bag) >= api.MaxBag {
		return
	}
	p.bag = append(p.bag, clone(m))
}

func (p *plain) Run(l ...api.Choice) []api.Errno {
	errs := make([]api.Errno, len(l))
	for i := range l {
		errs[i] = p.Step(l[i])
	}
	return errs
}

// lacks tells whether a choice is of what there is not.
func (p *plain) lacks(x api.Choice) bool {
	const parts, brokers, ids, bits, kept, whatever = 0, 1, 2, 3, 4, 5
	// What A, B, C are of each kind.
	var are [3]int
	switch x.Kind {
	case api.ChElect, api.ChTell, api.ChFlush, api.ChReport, api.ChWrite:
		are = [3]int{parts, brokers, whatever}
	case api.ChFence, api.ChRegister:
		are = [3]int{brokers, whatever, whatever}
	case api.ChExpire, api.ChMark:
		are = [3]int{ids, whatever, whatever}
	case api.ChFetch:
		are = [3]int{parts, brokers, brokers}
	case api.ChPropose:
		are = [3]int{parts, brokers, bits}
	case api.ChCrash:
		are = [3]int{brokers, kept, whatever}
	case api.ChDeliver, api.ChDouble, api.ChDrop:
		are = [3]int{whatever, whatever, whatever}
	default:
		return true
	}
	bounds := [...]int{p.f.Parts, p.f.Brokers, p.f.IDs, 1 << p.f.Brokers}
	for i, n := range []int{x.A, x.B, x.C} {
		if are[i] <= kept && n < 0 || are[i] < kept && n >= bounds[are[i]] {
			return true
		}
	}
	return false
}

func (p *plain) Step(x api.Choice) api.Errno {
	if p.lacks(x) {
		return api.ErrArg
	}
	r := p.all[place{x.A, x.B}]
	switch x.Kind {
	case api.ChElect:
		return p.m.Elect(x.A, x.B, x.C != 0)
	case api.ChFence:
		return p.m.Fence(x.A)
	case api.ChRegister:
		return p.m.Register(x.A)
	case api.ChTell:
		v, _ := p.m.View(x.A)
		p.puts(api.Msg{Kind: api.MsgView, To: x.B, Part: x.A, View: v})
	case api.ChFetch:
		f, err := r.Ask()
		if err != api.OK {
			return err
		}
		p.puts(api.Msg{Kind: api.MsgFetch, To: x.C, Part: x.A, Fetch: f})
	case api.ChFlush:
		return r.Flush()
	case api.ChCrash:
		for at := range p.all {
			if at.broker == x.A {
				p.all[at].Crash(x.B)
			}
		}
	case api.ChWrite:
		_, err := r.Append(api.Entry{ID: -1, Kind: api.EntryData, Value: int64(x.C)})
		return err
	case api.ChPropose:
		return p.proposes(x.A, r, x.C)
	case api.ChReport:
		return p.reports(x.A, r)
	case api.ChMark, api.ChExpire:
		return p.ends(x)
	default:
		return p.moves(x)
	}
	return api.OK
}

func (p *plain) proposes(part int, r *replica.Replica, bits int) api.Errno {
	l := []int{}
	for broker := 0; bits > 0; broker++ {
		if bits%2 == 1 {
			l = append(l, broker)
		}
		bits /= 2
	}
	a, err := r.Propose(l)
	if err == api.OK {
		p.puts(api.Msg{Kind: api.MsgAlter, To: -1, Part: part, Alter: a})
	}
	return err
}

func (p *plain) reports(part int, r *replica.Replica) api.Errno {
	s := r.Standing()
	if s.Role != api.RoleLead {
		return api.ErrLead
	}
	for id := 0; id < api.MaxIDs; id++ {
		for at := s.High - 1; at >= 0; at-- {
			if e := r.Log()[at]; e.ID == id && e.Kind != api.EntryData {
				p.puts(api.Msg{Kind: api.MsgMarked, To: -1, Part: part, Entry: api.Entry{ID: id, Num: e.Num}})
				break
			}
		}
	}
	return api.OK
}

// ends is what is done about the transaction of an ID.
func (p *plain) ends(x api.Choice) api.Errno {
	w, _ := p.m.Writing(x.A)
	kind := map[api.TxnState]api.EntryKind{api.TxnCommit: api.EntryCommit, api.TxnAbort: api.EntryAbort}[w.State]
	if x.Kind == api.ChExpire {
		if w.State != api.TxnOpen {
			return api.ErrNone
		}
		_, err := p.m.Init(x.A)
		if err == api.ErrBusy {
			err = api.OK
		}
		return err
	}
	if kind == api.EntryNone {
		return api.ErrNone
	}
	for part := 0; part < p.f.Parts; part++ {
		v, _ := p.m.View(part)
		if v.Leader >= 0 && slices.Contains(w.Parts, part) {
			p.puts(api.Msg{Kind: api.MsgMark, To: v.Leader, Part: part, Entry: api.Entry{ID: x.A, Num: w.Num, Kind: kind}})
		}
	}
	return api.OK
}

// moves is what is done with a message of the bag.
func (p *plain) moves(x api.Choice) api.Errno {
	if len(p.bag) == 0 {
		return api.ErrNone
	}
	at := x.A % len(p.bag)
	if at < 0 {
		at += len(p.bag)
	}
	m := clone(p.bag[at])
	if x.Kind != api.ChDouble {
		p.bag = append(p.bag[:at:at], p.bag[at+1:]...)
	}
	if x.Kind == api.ChDrop {
		return api.OK
	}
	return p.comes(m)
}

func (p *plain) comes(m api.Msg) api.Errno {
	r := p.all[place{m.Part, m.To}]
	switch m.Kind {
	case api.MsgView:
		return r.Learn(m.View)
	case api.MsgReply:
		return r.Take(m.Reply)
	case api.MsgMark, api.MsgData:
		_, err := r.Append(m.Entry)
		return err
	case api.MsgAlter:
		return p.m.Alter(m.Part, m.Alter.Leader, m.Alter.Epoch, m.Alter.Version, m.Alter.ISR)
	case api.MsgMarked:
		return p.m.Marked(m.Entry.ID, m.Entry.Num, m.Part)
	}
	if m.Fetch.From >= p.f.Brokers {
		return api.ErrArg
	}
	answer, err := r.Serve(m.Fetch, 4)
	if err == api.OK {
		p.puts(api.Msg{Kind: api.MsgReply, To: m.Fetch.From, Part: m.Part, Reply: answer})
	}
	return err
}

func (p *plain) Put(m api.Msg) api.Errno {
	least, to := 0, p.f.Brokers
	if m.Kind == api.MsgAlter || m.Kind == api.MsgMarked {
		least, to = -1, 0
	}
	if m.Kind < 1 || m.Kind > 7 || m.To < least || m.To >= to || m.Part < 0 || m.Part >= p.f.Parts {
		return api.ErrArg
	}
	was := clone(m)
	m = api.Msg{Kind: m.Kind, To: m.To, Part: m.Part}
	switch m.Kind {
	case api.MsgView:
		m.View = was.View
	case api.MsgFetch:
		m.Fetch = was.Fetch
	case api.MsgReply:
		m.Reply = was.Reply
	case api.MsgAlter:
		m.Alter = was.Alter
	case api.MsgMarked:
		m.Entry.ID, m.Entry.Num = was.Entry.ID, was.Entry.Num
	default:
		m.Entry = was.Entry
	}
	p.puts(m)
	return api.OK
}

func (p *plain) Bag() []api.Msg {
	var l []api.Msg
	for _, m := range p.bag {
		l = append(l, clone(m))
	}
	return l
}

func (p *plain) Meta() *meta.Meta { return p.m.Copy() }

func (p *plain) Replica(part, broker int) (*replica.Replica, api.Errno) {
	r := p.all[place{part, broker}]
	if r == nil {
		return nil, api.ErrArg
	}
	return r.Copy(), api.OK
}

func (p *plain) Init(id int) (int64, api.Errno) { return p.m.Init(id) }

func (p *plain) Add(id int, session int64, part int) (int64, api.Errno) {
	return p.m.Add(id, session, part)
}

func (p *plain) End(id int, session int64, commit bool, offset int64) api.Errno {
	return p.m.End(id, session, commit, offset)
}

func (p *plain) Committed(part int) ([]api.Entry, api.Errno) {
	if part < 0 || part >= p.f.Parts {
		return nil, api.ErrArg
	}
	var l []api.Entry
	for broker := p.f.Brokers - 1; broker >= 0; broker-- {
		r := p.all[place{part, broker}]
		if high := r.Standing().High; high >= len(l) {
			l = r.Log()[:high]
		}
	}
	return l, api.OK
}

func (p *plain) Visible(part int) ([]api.Entry, api.Errno) {
	l, err := p.Committed(part)
	has := func(id int, num int64, kind api.EntryKind) bool {
		return slices.ContainsFunc(l, func(e api.Entry) bool { return e.ID == id && e.Num == num && e.Kind == kind })
	}
	var seen []api.Entry
	for _, e := range l {
		if e.Kind != api.EntryData {
			continue
		}
		commits, aborts := has(e.ID, e.Num, api.EntryCommit), has(e.ID, e.Num, api.EntryAbort)
		if e.ID >= 0 && !commits && !aborts {
			break // nothing behind it is stable
		}
		if e.ID < 0 || commits {
			seen = append(seen, e)
		}
	}
	return seen, err
}
