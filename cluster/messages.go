package cluster

import (
	"slices"

	"waystation/api"
	"waystation/replica"
)

// controller is to whom a message goes that goes to no broker.
const controller = -1

// most is how many entries a reply has at most.
const most = 4

// bag is the messages on their way, in the order in which they were put. None of them shares its lists with anybody.
type bag []api.Msg

// put puts a message, if there is room; else it is lost.
func (b *bag) put(m api.Msg) {
	if len(*b) < api.MaxBag {
		*b = append(*b, m)
	}
}

// take takes a message out.
func (b *bag) take(at int) api.Msg {
	m := (*b)[at]
	*b = slices.Delete(*b, at, at+1)
	return m
}

// pick is where the message stands that a number picks, or ErrNone.
func (b bag) pick(a int) (int, api.Errno) {
	n := len(b)
	if n == 0 {
		goto none
	}
	// Twice, as what is left of a number below 0 is below 0.
	return (a%n + n) % n, api.OK
none:
	return 0, api.ErrNone
}

// copied is the same messages in memory of their own.
func (b bag) copied() bag {
	var l bag
	for at := range len(b) {
		l = append(l, named(b[at]))
	}
	return l
}

// like tells whether two bags have the same messages in the same order.
func (b bag) like(other bag) bool { return slices.EqualFunc(b, other, alike) }

// come does what a message does that comes.
func (c *Cluster) come(m api.Msg) api.Errno { return c.comes()[m.Kind](m) }

// comes is what a message does that comes, by its kind.
func (c *Cluster) comes() map[api.MsgKind]func(api.Msg) api.Errno {
	at := func(m api.Msg) *replica.Replica { return c.replicas[m.Part][m.To] }
	appends := func(m api.Msg) api.Errno {
		_, err := at(m).Append(m.Entry)
		return err
	}
	return map[api.MsgKind]func(api.Msg) api.Errno{
		api.MsgView:  func(m api.Msg) api.Errno { return at(m).Learn(m.View) },
		api.MsgFetch: func(m api.Msg) api.Errno { return c.serve(at(m), m) },
		api.MsgReply: func(m api.Msg) api.Errno { return at(m).Take(m.Reply) },
		api.MsgMark:  appends,
		api.MsgData:  appends,
		api.MsgAlter: func(m api.Msg) api.Errno {
			return c.control.Alter(m.Part, m.Alter.Leader, m.Alter.Epoch, m.Alter.Version, m.Alter.ISR)
		},
		api.MsgMarked: func(m api.Msg) api.Errno { return c.control.Marked(m.Entry.ID, m.Entry.Num, m.Part) },
	}
}

// serve puts what a replica answers to whoever fetches.
func (c *Cluster) serve(r *replica.Replica, m api.Msg) api.Errno {
	var p api.Reply
	var err api.Errno
	// A replica takes any of MaxBrokers for a broker, but to one that is not here no reply can be put.
	if err = api.ErrArg; !c.hasBroker(m.Fetch.From) {
		goto refused
	}
	if p, err = r.Serve(m.Fetch, most); err != api.OK {
		goto refused
	}
	c.bag.put(api.Msg{Kind: api.MsgReply, To: m.Fetch.From, Part: m.Part, Reply: p})
	return api.OK
refused:
	return err
}
