package cluster

import (
	"waystation/api"
	"waystation/replica"
)

// nobody is who wrote, or who leads, where it is nobody.
const nobody = -1

// choices is what is done for a choice that may be, by its kind.
func (c *Cluster) choices() [api.ChExpire + 1]func(api.Choice) api.Errno {
	return [...]func(api.Choice) api.Errno{
		api.ChElect:    c.elect,
		api.ChFence:    c.fence,
		api.ChRegister: c.register,
		api.ChTell:     c.tell,
		api.ChFetch:    c.fetch,
		api.ChFlush:    c.flush,
		api.ChCrash:    c.crash,
		api.ChPropose:  c.propose,
		api.ChMark:     c.mark,
		api.ChReport:   c.report,
		api.ChDeliver:  c.deliver,
		api.ChDouble:   c.double,
		api.ChDrop:     c.drop,
		api.ChWrite:    c.write,
		api.ChExpire:   c.expire,
	}
}

// at is the replica of the partition A at the broker B.
func (c *Cluster) at(x api.Choice) *replica.Replica { return c.replicas[x.A][x.B] }

// view is that of a partition that is there, so no error comes with it.
func (c *Cluster) view(part int) api.View {
	v, _ := c.control.View(part)
	return v
}

// writing is that of an ID that is there, so no error comes with it.
func (c *Cluster) writing(id int) api.Writing {
	w, _ := c.control.Writing(id)
	return w
}

func (c *Cluster) elect(x api.Choice) api.Errno { return c.control.Elect(x.A, x.B, x.C != 0) }

func (c *Cluster) fence(x api.Choice) api.Errno { return c.control.Fence(x.A) }

func (c *Cluster) register(x api.Choice) api.Errno { return c.control.Register(x.A) }

// expire lets the controller abort the open transaction of an ID whose writer does not come back.
func (c *Cluster) expire(x api.Choice) api.Errno {
	err := api.ErrNone
	if c.writing(x.A).State != api.TxnOpen {
		goto refused
	}
	// It answers so where it has begun to abort what was open.
	if _, err = c.control.Init(x.A); err != api.ErrBusy {
		goto refused
	}
	return api.OK
refused:
	return err
}

// tell puts the controller's view to a broker.
func (c *Cluster) tell(x api.Choice) api.Errno {
	c.bag.put(api.Msg{Kind: api.MsgView, To: x.B, Part: x.A, View: c.view(x.A)})
	return api.OK
}

// mark puts the marker of a transaction that is being ended to whoever leads where it is not yet.
func (c *Cluster) mark(x api.Choice) api.Errno {
	w := c.writing(x.A)
	if w.State != api.TxnCommit && w.State != api.TxnAbort {
		goto none
	}
	for _, part := range w.Parts {
		if leader := c.view(part).Leader; leader != nobody {
			c.bag.put(api.Msg{Kind: api.MsgMark, To: leader, Part: part, Entry: marker(x.A, w)})
		}
	}
	return api.OK
none:
	return api.ErrNone
}

// marker is that of an ID's transaction that is being ended.
func marker(id int, w api.Writing) api.Entry {
	kind := api.EntryAbort
	if w.State == api.TxnCommit {
		kind = api.EntryCommit
	}
	return api.Entry{ID: id, Num: w.Num, Kind: kind}
}

// fetch puts what a replica asks to a broker.
func (c *Cluster) fetch(x api.Choice) api.Errno {
	f, err := c.at(x).Ask()
	if err != api.OK {
		goto refused
	}
	c.bag.put(api.Msg{Kind: api.MsgFetch, To: x.C, Part: x.A, Fetch: f})
	return api.OK
refused:
	return err
}

func (c *Cluster) flush(x api.Choice) api.Errno { return c.at(x).Flush() }

// propose puts what a replica asks for to the controller.
func (c *Cluster) propose(x api.Choice) api.Errno {
	a, err := c.at(x).Propose(c.brokersOf(x.C))
	if err != api.OK {
		goto refused
	}
	c.bag.put(api.Msg{Kind: api.MsgAlter, To: controller, Part: x.A, Alter: a})
	return api.OK
refused:
	return err
}

// report puts to the controller what markers are committed. Of an ID the last one says it of all of them.
func (c *Cluster) report(x api.Choice) api.Errno {
	r := c.at(x)
	if r.Standing().Role != api.RoleLead {
		goto refused
	}
	for id, num := range lastMarked(below(r)) {
		if num != 0 {
			c.bag.put(api.Msg{Kind: api.MsgMarked, To: controller, Part: x.A, Entry: api.Entry{ID: id, Num: num}})
		}
	}
	return api.OK
refused:
	return api.ErrLead
}

// write appends data of nobody.
func (c *Cluster) write(x api.Choice) api.Errno {
	_, err := c.at(x).Append(api.Entry{ID: nobody, Kind: api.EntryData, Value: int64(x.C)})
	return err
}

// crash lets all replicas at a broker crash.
func (c *Cluster) crash(x api.Choice) api.Errno {
	for part := range c.parts {
		// No error: any number from 0 on may be kept.
		c.replicas[part][x.A].Crash(x.B)
	}
	return api.OK
}

// deliver lets a message come that is on its way no more: so there is room for what it puts.
func (c *Cluster) deliver(x api.Choice) api.Errno {
	at, err := c.bag.pick(x.A)
	if err != api.OK {
		goto refused
	}
	return c.come(c.bag.take(at))
refused:
	return err
}

// double lets a message come that stays on its way.
func (c *Cluster) double(x api.Choice) api.Errno {
	at, err := c.bag.pick(x.A)
	if err != api.OK {
		goto refused
	}
	return c.come(c.bag[at])
refused:
	return err
}

// drop loses a message.
func (c *Cluster) drop(x api.Choice) api.Errno {
	at, err := c.bag.pick(x.A)
	if err != api.OK {
		goto refused
	}
	c.bag.take(at)
	return api.OK
refused:
	return err
}

// below is a replica's first High entries.
func below(r *replica.Replica) []api.Entry { return r.Log()[:r.Standing().High] }

// lastMarked is of each ID the Num of its last marker in a log, 0 of none.
func lastMarked(l []api.Entry) (nums [api.MaxIDs]int64) {
	for _, e := range l {
		if e.Kind == api.EntryCommit || e.Kind == api.EntryAbort {
			nums[e.ID] = e.Num
		}
	}
	return nums
}
