package replica

import (
	"waystation/api"
	"waystation/epochs"
)

// ask is what a follower asks.
func (r *Replica) ask() api.Fetch {
	need(r.role == api.RoleFollow, api.ErrLead)
	return api.Fetch{From: r.self, Epoch: r.epoch, Offset: r.table.Len(), Last: last(r.table.Log()), Flushed: r.flushed}
}

// take does what a follower is answered.
func (r *Replica) take(p api.Reply) {
	need(mayBeReply(p), api.ErrArg)
	need(r.role == api.RoleFollow, api.ErrLead)
	l := r.table.Log()
	need(p.Epoch == r.epoch && p.Base == len(l) && p.Last == last(l), api.ErrOld)
	if p.Cut {
		r.cut(l, p)
		return
	}
	need(len(l)+len(p.Entries) <= api.MaxLog, api.ErrLong)
	for _, e := range p.Entries {
		pass(r.table.Append(e))
	}
	r.high = max(r.high, min(p.High, r.table.Len()))
}

// cut leaves of the log, which is l, what a reply says.
func (r *Replica) cut(l []api.Entry, p api.Reply) {
	kept, err := epochs.Cut(l, p.CutEpoch, p.CutEnd)
	pass(err)
	// One less at least, so that who does not fit comes nearer each time.
	r.keep(max(0, min(kept, len(l)-1)))
}

// crash leaves what lasts, and so many entries more.
func (r *Replica) crash(keep int) {
	need(keep >= 0, api.ErrArg)
	left := r.flushed + min(keep, r.table.Len()-r.flushed)
	r.keep(left)
	r.flushed = left
	r.role = api.RoleNone
	r.lead = lead{}
}

// keep leaves the first n entries.
func (r *Replica) keep(n int) {
	pass(r.table.Truncate(n))
	r.flushed = min(r.flushed, n)
	r.high = min(r.high, n)
}

// last is the epoch of a log's last entry, 0 of none.
func last(l []api.Entry) int64 {
	epoch, err := epochs.Last(l)
	pass(err)
	return epoch
}
