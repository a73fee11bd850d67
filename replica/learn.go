package replica

import "waystation/api"

// learn learns a view.
func (r *Replica) learn(v api.View) {
	need(mayBeView(v), api.ErrArg)
	need(v.Epoch >= r.epoch, api.ErrOld)
	if v.Epoch > r.epoch {
		r.enter(v)
		return
	}
	switch r.role {
	case api.RoleLead:
		need(v.Version > r.version, api.ErrOld)
		r.alter(v)
		r.count()
	case api.RoleNone:
		// Whoever crashed does not know any more what it appended in that epoch, so it may not lead in it again.
		need(v.Leader != nobody && v.Leader != r.self, api.ErrOld)
		r.role = api.RoleFollow
	}
}

// enter takes up the role that a view of a greater epoch gives.
func (r *Replica) enter(v api.View) {
	r.epoch = v.Epoch
	r.lead = lead{}
	switch v.Leader {
	case r.self:
		r.role = api.RoleLead
		r.lead = newLead(v, r.table.Len())
		r.count()
	case nobody:
		r.role = api.RoleNone
	default:
		r.role = api.RoleFollow
	}
}

// count lets be committed what lasts of all that count.
func (r *Replica) count() { r.high = max(r.high, r.inAll(r.self, r.flushed)) }
