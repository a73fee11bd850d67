package replica

import (
	"slices"

	"waystation/api"
	"waystation/epochs"
)

// append lets an entry be the log's last one, and tells its offset.
func (r *Replica) append(e api.Entry) int {
	// 1 for a replica in epoch 0, which no entry may have: what else is against an entry is told ahead of the role.
	e.Epoch = max(r.epoch, 1)
	refused := r.table.Check(e)
	need(refused != api.ErrArg, api.ErrArg)
	need(r.role == api.RoleLead, api.ErrLead)
	need(len(r.isr) >= r.least, api.ErrFew)
	pass(refused)
	pass(r.table.Append(e))
	return r.table.Len() - 1
}

// flush lets all last.
func (r *Replica) flush() {
	r.flushed = r.table.Len()
	if r.role == api.RoleLead {
		r.count()
	}
}

// serve answers a follower.
func (r *Replica) serve(f api.Fetch, most int) api.Reply {
	need(mayBeFetch(f, r.self) && most >= 0, api.ErrArg)
	need(r.role == api.RoleLead, api.ErrLead)
	need(f.Epoch == r.epoch, api.ErrOld)
	l := r.table.Log()
	fits, err := epochs.Fits(l, f.Offset, f.Last)
	pass(err)
	p := api.Reply{Epoch: r.epoch, Base: f.Offset, Last: f.Last}
	if fits {
		r.note(f.From, f.Flushed)
		r.count()
		behind := l[f.Offset:]
		p.Entries = slices.Clip(behind[:min(most, len(behind))])
	} else {
		p.Cut = true
		p.CutEpoch, p.CutEnd, err = epochs.End(l, f.Last)
		pass(err)
	}
	p.High = r.high
	return p
}

// propose lets others count, and is what the controller is asked for.
func (r *Replica) propose(isr []int) api.Alter {
	need(areBrokers(isr) && slices.Contains(isr, r.self), api.ErrArg)
	need(r.role == api.RoleLead, api.ErrLead)
	for _, broker := range isr {
		need(r.near(broker, r.high), api.ErrBehind)
	}
	// Ahead of the answer: as soon as the controller has heard of it they are in step, whether the leader knows or not.
	r.join(isr)
	return api.Alter{Leader: r.self, Epoch: r.epoch, Version: r.version, ISR: slices.Clone(isr)}
}

// has tells whether data are committed here.
func (r *Replica) has(id int, num, seq int64) bool {
	need(r.role == api.RoleLead, api.ErrLead)
	return slices.ContainsFunc(r.committed(), func(e api.Entry) bool {
		return e.Kind == api.EntryData && e.ID == id && e.Num == num && e.Seq == seq
	})
}
