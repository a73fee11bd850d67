package replica

import (
	"slices"

	"waystation/api"
	"waystation/producers"
)

// nobody is the leader where none leads.
const nobody = -1

func isBroker(broker int) bool { return broker >= 0 && broker < api.MaxBrokers }

func isNumber(n int64) bool { return n >= 0 && n <= api.MaxNumber }

// areBrokers tells whether a list is of brokers, rising.
func areBrokers(l []int) bool {
	least := 0
	for _, broker := range l {
		if broker < least || !isBroker(broker) {
			goto mayNot
		}
		least = broker + 1
	}
	return true
mayNot:
	return false
}

// mayBeView tells whether there may be such a view.
func mayBeView(v api.View) bool {
	if v.Leader != nobody && !slices.Contains(v.ISR, v.Leader) {
		goto mayNot
	}
	if !isNumber(v.Epoch) || !isNumber(v.Version) {
		goto mayNot
	}
	if len(v.ISR) == 0 || !areBrokers(v.ISR) {
		goto mayNot
	}
	return true
mayNot:
	return false
}

// mayBeFetch tells whether another broker than self may ask that.
func mayBeFetch(f api.Fetch, self int) bool {
	if !isBroker(f.From) || f.From == self {
		goto mayNot
	}
	if f.Epoch < 0 || f.Last < 0 {
		goto mayNot
	}
	// So Offset is not below 0 either.
	if f.Flushed < 0 || f.Flushed > f.Offset {
		goto mayNot
	}
	return true
mayNot:
	return false
}

// mayBeReply tells whether there may be such a reply.
func mayBeReply(p api.Reply) bool {
	last, empty := p.Last, producers.New()
	if min(p.Epoch, p.Last, p.CutEpoch) < 0 || min(p.Base, p.CutEnd, p.High) < 0 {
		goto mayNot
	}
	for _, e := range p.Entries {
		// Whatever else is against an entry hangs on what stands ahead of it, and a leader may have it all the same.
		if e.Epoch < last || empty.Check(e) == api.ErrArg {
			goto mayNot
		}
		last = e.Epoch
	}
	return true
mayNot:
	return false
}
