package meta

import (
	"slices"

	"waystation/api"
)

// writer is an ID's.
type writer api.Writing

// newWriter is a writer as it is at first.
func newWriter() writer { return writer{State: api.TxnNone} }

// ending tells whether a transaction is being ended.
func (w *writer) ending() bool { return w.State == api.TxnCommit || w.State == api.TxnAbort }

// begin begins a session, and tells whether it may be given out: an elder one's open transaction must be aborted ahead of that.
func (w *writer) begin() bool {
	w.Session++
	if w.State == api.TxnOpen {
		w.State = api.TxnAbort
		return false
	}
	return true
}

// add lets the open transaction have a partition, a new one if none is open.
func (w *writer) add(part int) {
	if w.State == api.TxnNone {
		w.Num++
		w.State = api.TxnOpen
	}
	w.Parts = with(w.Parts, part)
}

// end begins to end the open transaction. If none is open, there is nothing to be marked, so what is committed is so at once.
func (w *writer) end(commit bool, offset int64) {
	switch {
	case w.State == api.TxnOpen && commit:
		w.State, w.Next = api.TxnCommit, offset
	case w.State == api.TxnOpen:
		w.State = api.TxnAbort
	case commit:
		w.Offset = offset
	}
}

// wantsMarker tells whether a partition is to get the marker of a transaction.
func (w *writer) wantsMarker(num int64, part int) bool {
	return w.ending() && w.Num == num && slices.Contains(w.Parts, part)
}

// mark notes that a partition has the marker. Behind the last one the transaction has ended.
func (w *writer) mark(part int) {
	w.Parts = without(w.Parts, part)
	if len(w.Parts) > 0 {
		return
	}
	if w.State == api.TxnCommit {
		w.Offset = w.Next
	}
	w.State, w.Next = api.TxnNone, 0
}

// copied is the same writer in memory of its own.
func (w writer) copied() writer {
	w.Parts = copied(w.Parts)
	return w
}

// like tells whether two writers are the same.
func (w writer) like(other writer) bool {
	return w.Session == other.Session && w.Num == other.Num && w.State == other.State &&
		w.Offset == other.Offset && w.Next == other.Next && slices.Equal(w.Parts, other.Parts)
}
