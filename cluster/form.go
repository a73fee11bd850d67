package cluster

import "waystation/api"

// form is how many brokers, partitions, IDs there are. Its names are small, so that who has a cluster can't change them by what it promotes.
type form struct{ brokers, parts, ids int }

func (f form) hasBroker(broker int) bool { return broker >= 0 && broker < f.brokers }

func (f form) hasPart(part int) bool { return part >= 0 && part < f.parts }

func (f form) hasID(id int) bool { return id >= 0 && id < f.ids }

// hasBits tells whether bits are those of brokers that are there alone.
func (f form) hasBits(bits int) bool { return bits>>f.brokers == 0 }

// brokersOf is the brokers whose bits these have, rising.
func (f form) brokersOf(bits int) []int {
	var l []int
	for broker := range f.brokers {
		if bits>>broker&1 == 1 {
			l = append(l, broker)
		}
	}
	return l
}

// mayChoose tells whether there may be such a choice: what its kind takes A, B, C for must be there.
func (f form) mayChoose(x api.Choice) bool {
	switch x.Kind {
	case api.ChElect, api.ChTell, api.ChFlush, api.ChReport, api.ChWrite:
		return f.hasPart(x.A) && f.hasBroker(x.B)
	case api.ChFetch:
		return f.hasPart(x.A) && f.hasBroker(x.B) && f.hasBroker(x.C)
	case api.ChPropose:
		return f.hasPart(x.A) && f.hasBroker(x.B) && f.hasBits(x.C)
	case api.ChFence, api.ChRegister:
		return f.hasBroker(x.A)
	case api.ChCrash:
		return f.hasBroker(x.A) && x.B >= 0
	case api.ChMark, api.ChExpire:
		return f.hasID(x.A)
	case api.ChDeliver, api.ChDouble, api.ChDrop:
		return true
	}
	return false
}

// mayPut tells whether there may be such a message on its way. What it says is told apart by whom it comes to.
func (f form) mayPut(m api.Msg) bool {
	if !f.hasPart(m.Part) {
		goto mayNot
	}
	switch m.Kind {
	case api.MsgView, api.MsgFetch, api.MsgReply, api.MsgMark, api.MsgData:
		return f.hasBroker(m.To)
	case api.MsgAlter, api.MsgMarked:
		return m.To == controller
	}
mayNot:
	return false
}
