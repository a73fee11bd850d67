package producers

import (
	"waystation/api"
	"waystation/wire"
)

// refuser is why a table refuses an entry, or OK. It is asked only where all ahead of it in its list, and in the lists ahead, had nothing against the entry.
type refuser func(t *Table, e api.Entry) api.Errno

// refusal is what the first that refuses an entry answers, or OK.
func (t *Table) refusal(e api.Entry, lists ...[]refuser) (why api.Errno) {
asking:
	for _, l := range lists {
		for _, refuse := range l {
			if why = refuse(t, e); why != api.OK {
				break asking
			}
		}
	}
	return why
}

// byLog is what refuses an entry whoever wrote it.
func byLog() []refuser { return []refuser{noTable, noEntry, full, falls} }

// byWriter is what refuses an entry by what its ID wrote so far.
func byWriter(e api.Entry) []refuser {
	switch {
	case e.ID == nobody:
		return nil
	case e.Kind == api.EntryData:
		return []refuser{elderData, besideOpen, doubleData, notNext}
	}
	return []refuser{doubleMarker, elderMarker}
}

// when is an error if something is so.
func when(so bool, why api.Errno) api.Errno {
	if so {
		return why
	}
	return api.OK
}

func noTable(t *Table, _ api.Entry) api.Errno { return when(!t.there(), api.ErrNil) }

func noEntry(_ *Table, e api.Entry) api.Errno { return wire.Check(e) }

func full(t *Table, _ api.Entry) api.Errno { return when(len(t.log) >= api.MaxLog, api.ErrLong) }

func falls(t *Table, e api.Entry) api.Errno { return when(e.Epoch < t.epoch(), api.ErrEpoch) }

func elderData(t *Table, e api.Entry) api.Errno {
	w := &t.writers[e.ID]
	return when(e.Num <= w.marked || e.Num < w.high, api.ErrFenced)
}

func besideOpen(t *Table, e api.Entry) api.Errno {
	return when(t.writers[e.ID].otherOpen(e.Num), api.ErrOpen)
}

func doubleData(t *Table, e api.Entry) api.Errno {
	w := &t.writers[e.ID]
	return when(e.Num == w.high && e.Seq < w.next, api.ErrDouble)
}

func notNext(t *Table, e api.Entry) api.Errno {
	w := &t.writers[e.ID]
	next := w.next
	if e.Num > w.high {
		next = 0
	}
	return when(e.Seq != next, api.ErrOrder)
}

func doubleMarker(t *Table, e api.Entry) api.Errno {
	return when(e.Num <= t.writers[e.ID].marked, api.ErrDouble)
}

func elderMarker(t *Table, e api.Entry) api.Errno {
	w := &t.writers[e.ID]
	return when(e.Num < w.high || w.otherOpen(e.Num), api.ErrFenced)
}
