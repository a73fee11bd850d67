package meta

import (
	"maps"
	"slices"

	"waystation/api"
)

// controls is what both ways can.
type controls interface {
	Fence(broker int) api.Errno
	Register(broker int) api.Errno
	Elect(part, broker int, unclean bool) api.Errno
	Alter(part, leader int, epoch, version int64, isr []int) api.Errno
	Init(id int) (int64, api.Errno)
	Add(id int, session int64, part int) (int64, api.Errno)
	End(id int, session int64, commit bool, offset int64) api.Errno
	Marked(id int, num int64, part int) api.Errno
	Lives(broker int) (bool, api.Errno)
	View(part int) (api.View, api.Errno)
	Writing(id int) (api.Writing, api.Errno)
	Form() api.Form
}

// plain is the second, plain way, as near to the chapter's words as may be: lists are sets, what is not so is not there.
type plain struct {
	form  api.Form
	dead  map[int]bool
	parts map[int]*plainPart
	ids   map[int]*plainID
}

type plainPart struct {
	leads          map[int]bool
	step           map[int]bool
	epoch, version int64
}

// plainID has a transaction only while one is open or being ended.
type plainID struct {
	session, num, offset int64
	txn                  *plainTxn
}

type plainTxn struct {
	left           map[int]bool
	commits, ended bool
	to             int64
}

const most = 2147483647

func newPlain(f api.Form) *plain {
	p := &plain{f, map[int]bool{}, map[int]*plainPart{}, map[int]*plainID{}}
	for part := 0; part < f.Parts; part++ {
		p.parts[part] = &plainPart{leads: map[int]bool{}, step: map[int]bool{}}
		for broker := 0; broker < f.Brokers; broker++ {
			p.parts[part].step[broker] = true
		}
	}
	for id := 0; id < f.IDs; id++ {
		p.ids[id] = &plainID{}
	}
	return p
}

func (p *plain) another() *plain {
	c := &plain{p.form, maps.Clone(p.dead), map[int]*plainPart{}, map[int]*plainID{}}
	for part, x := range p.parts {
		c.parts[part] = &plainPart{maps.Clone(x.leads), maps.Clone(x.step), x.epoch, x.version}
	}
	for id, x := range p.ids {
		y := *x
		if x.txn != nil {
			txn := *x.txn
			txn.left = maps.Clone(txn.left)
			y.txn = &txn
		}
		c.ids[id] = &y
	}
	return c
}

func (p *plain) noBroker(broker int) bool { return broker < 0 || broker >= p.form.Brokers }

func (p *plain) Fence(broker int) api.Errno {
	if p.noBroker(broker) {
		return api.ErrArg
	}
	c := p.another()
	c.dead[broker] = true
	for _, x := range c.parts {
		was := plainPart{epoch: x.epoch, version: x.version}
		changes := false
		if len(x.step) > 1 && x.step[broker] {
			delete(x.step, broker)
			changes = true
		}
		if x.leads[broker] {
			x.leads = map[int]bool{}
			x.epoch++
			changes = true
		}
		if changes {
			x.version++
		}
		if x.epoch != was.epoch && was.epoch == most || x.version != was.version && was.version == most {
			return api.ErrEnd
		}
	}
	*p = *c
	return api.OK
}

func (p *plain) Register(broker int) api.Errno {
	if p.noBroker(broker) {
		return api.ErrArg
	}
	delete(p.dead, broker)
	return api.OK
}

func (p *plain) Elect(part, broker int, unclean bool) api.Errno {
	x := p.parts[part]
	switch {
	case x == nil || p.noBroker(broker):
		return api.ErrArg
	case p.dead[broker]:
		return api.ErrDead
	case !x.step[broker] && !unclean:
		return api.ErrSync
	case x.epoch == most || x.version == most:
		return api.ErrEnd
	case !x.step[broker]:
		x.step = map[int]bool{broker: true}
	}
	x.leads = map[int]bool{broker: true}
	x.epoch++
	x.version++
	return api.OK
}

func (p *plain) Alter(part, leader int, epoch, version int64, isr []int) api.Errno {
	x, step := p.parts[part], map[int]bool{}
	for i, broker := range isr {
		if i > 0 && isr[i-1] >= broker || p.noBroker(broker) {
			return api.ErrArg
		}
		step[broker] = true
	}
	switch {
	case x == nil || !step[leader]:
		return api.ErrArg
	case !x.leads[leader] || x.epoch != epoch || x.version != version:
		return api.ErrStale
	}
	for broker := range p.dead {
		if step[broker] {
			return api.ErrDead
		}
	}
	if x.version == most {
		return api.ErrEnd
	}
	x.step = step
	x.version++
	return api.OK
}

func (p *plain) Init(id int) (int64, api.Errno) {
	x := p.ids[id]
	switch {
	case x == nil:
		return 0, api.ErrArg
	case x.txn != nil && x.txn.ended:
		return 0, api.ErrBusy
	case x.session == most:
		return 0, api.ErrEnd
	}
	x.session++
	if x.txn != nil {
		x.txn.ended = true
		return 0, api.ErrBusy
	}
	return x.session, api.OK
}

func (p *plain) Add(id int, session int64, part int) (int64, api.Errno) {
	x := p.ids[id]
	switch {
	case x == nil || p.parts[part] == nil:
		return 0, api.ErrArg
	case x.session != session:
		return 0, api.ErrStale
	case x.txn != nil && x.txn.ended:
		return 0, api.ErrBusy
	case x.txn == nil && x.num == most:
		return 0, api.ErrEnd
	case x.txn == nil:
		x.num++
		x.txn = &plainTxn{left: map[int]bool{}}
	}
	x.txn.left[part] = true
	return x.num, api.OK
}

func (p *plain) End(id int, session int64, commit bool, offset int64) api.Errno {
	x := p.ids[id]
	switch {
	case x == nil || offset < 0 || offset > most || offset < x.offset:
		return api.ErrArg
	case x.session != session:
		return api.ErrStale
	case x.txn != nil && x.txn.ended:
		return api.ErrBusy
	case x.txn != nil:
		x.txn.ended, x.txn.commits, x.txn.to = true, commit, offset
	case commit:
		x.offset = offset
	}
	return api.OK
}

func (p *plain) Marked(id int, num int64, part int) api.Errno {
	x := p.ids[id]
	switch {
	case x == nil || p.parts[part] == nil:
		return api.ErrArg
	case x.num != num || x.txn == nil || !x.txn.ended || !x.txn.left[part]:
		return api.ErrStale
	}
	delete(x.txn.left, part)
	if len(x.txn.left) == 0 {
		if x.txn.commits {
			x.offset = x.txn.to
		}
		x.txn = nil
	}
	return api.OK
}

func (p *plain) Lives(broker int) (bool, api.Errno) {
	if p.noBroker(broker) {
		return false, api.ErrArg
	}
	return !p.dead[broker], api.OK
}

func (p *plain) View(part int) (api.View, api.Errno) {
	x := p.parts[part]
	if x == nil {
		return api.View{}, api.ErrArg
	}
	v := api.View{Leader: -1, Epoch: x.epoch, Version: x.version, ISR: slices.Sorted(maps.Keys(x.step))}
	for broker := range x.leads {
		v.Leader = broker
	}
	return v, api.OK
}

func (p *plain) Writing(id int) (api.Writing, api.Errno) {
	x := p.ids[id]
	if x == nil {
		return api.Writing{}, api.ErrArg
	}
	w := api.Writing{Session: x.session, Num: x.num, State: 1, Offset: x.offset}
	if x.txn == nil {
		return w, api.OK
	}
	w.Parts = slices.Sorted(maps.Keys(x.txn.left))
	switch {
	case !x.txn.ended:
		w.State = 2
	case x.txn.commits:
		w.State, w.Next = 3, x.txn.to
	default:
		w.State = 4
	}
	return w, api.OK
}

func (p *plain) Form() api.Form { return p.form }
