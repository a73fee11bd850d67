package cluster

import (
	"slices"

	"waystation/api"
)

// named is what of a message its kind names, in memory of its own.
func named(m api.Msg) api.Msg {
	n := api.Msg{Kind: m.Kind, To: m.To, Part: m.Part}
	switch m.Kind {
	case api.MsgView:
		n.View = m.View
		n.View.ISR = slices.Clone(m.View.ISR)
	case api.MsgFetch:
		n.Fetch = m.Fetch
	case api.MsgReply:
		n.Reply = m.Reply
		n.Reply.Entries = slices.Clone(m.Reply.Entries)
	case api.MsgAlter:
		n.Alter = m.Alter
		n.Alter.ISR = slices.Clone(m.Alter.ISR)
	case api.MsgMark, api.MsgData:
		n.Entry = m.Entry
	case api.MsgMarked:
		n.Entry = api.Entry{ID: m.Entry.ID, Num: m.Entry.Num}
	}
	return n
}

// alike tells whether two messages are the same.
func alike(a, b api.Msg) bool {
	return a.Kind == b.Kind && a.To == b.To && a.Part == b.Part && a.Fetch == b.Fetch && a.Entry == b.Entry &&
		sameView(a.View, b.View) && sameReply(a.Reply, b.Reply) && sameAlter(a.Alter, b.Alter)
}

func sameView(a, b api.View) bool {
	return a.Leader == b.Leader && a.Epoch == b.Epoch && a.Version == b.Version && slices.Equal(a.ISR, b.ISR)
}

func sameReply(a, b api.Reply) bool {
	return a.Epoch == b.Epoch && a.Base == b.Base && a.Last == b.Last && a.High == b.High &&
		a.Cut == b.Cut && a.CutEpoch == b.CutEpoch && a.CutEnd == b.CutEnd && slices.Equal(a.Entries, b.Entries)
}

func sameAlter(a, b api.Alter) bool {
	return a.Leader == b.Leader && a.Epoch == b.Epoch && a.Version == b.Version && slices.Equal(a.ISR, b.ISR)
}
