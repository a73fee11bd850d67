package visible

import (
	"iter"
	"maps"

	"waystation/api"
	"waystation/producers"
)

// table is a log, and which of its transactions have a marker, which have EntryCommit. It is asked of any number of the first entries, while layer 8 tells what is stable of all alone.
type table struct {
	log              *producers.Table
	ended, committed set[transaction]
}

func newTable() table {
	return table{log: producers.New(), ended: set[transaction]{}, committed: set[transaction]{}}
}

// tableOf is the table of a log, or the first error of appending its entries.
func tableOf(l []api.Entry) (table, api.Errno) {
	t := newTable()
	for _, e := range l {
		if err := t.append(e); err != api.OK {
			return table{}, err
		}
	}
	return t, api.OK
}

// append lets an entry be the log's last one, if layer 8 does.
func (t *table) append(e api.Entry) api.Errno {
	at := t.len()
	if err := t.log.Append(e); err != api.OK {
		return err
	}
	if e.Kind != api.EntryData {
		t.ended.add(whose(e), at)
	}
	if e.Kind == api.EntryCommit {
		t.committed.add(whose(e), at)
	}
	return api.OK
}

// whyEnded is why an entry of a transaction that has a marker is refused. What layer 8's Append refuses, its Check tells ahead of what it refuses further.
func (t *table) whyEnded(e api.Entry) api.Errno {
	switch err := t.log.Check(e); err {
	case api.ErrArg, api.ErrLong, api.ErrEpoch:
		return err
	}
	return api.ErrGood
}

func (t *table) len() int { return t.log.Len() }

// stable tells what is stable of the first n entries, from an offset on up to which all is.
func (t *table) stable(from, n int) iter.Seq2[int, api.Entry] {
	l := t.log.Log()[:n]
	return func(yield func(int, api.Entry) bool) {
		for at := from; at < n; at++ {
			if t.open(l[at], n) || !yield(at, l[at]) {
				return
			}
		}
	}
}

// open tells whether one of the first n entries is of a transaction that is open among them.
func (t *table) open(e api.Entry, n int) bool {
	return whose(e) != nobodys && !t.ended.has(whose(e), n)
}

// visible tells the offsets of what is visible of the first n entries, from an offset on up to which all is stable.
func (t *table) visible(from, n int) iter.Seq[int] {
	sees := t.sees(n)
	return func(yield func(int) bool) {
		for at, e := range t.stable(from, n) {
			if sees(e) && !yield(at) {
				return
			}
		}
	}
}

// sees asks of an entry that is stable of the first n whether it is visible of them.
func (t *table) sees(n int) func(api.Entry) bool {
	return func(e api.Entry) bool {
		// The marker may stand behind what is stable: else what is visible of fewer entries would be no beginning of what is of more.
		return e.Kind == api.EntryData && (whose(e) == nobodys || t.committed.has(whose(e), n))
	}
}

// copy is another one of the same, that goes on apart.
func (t *table) copy() table {
	return table{log: t.log.Copy(), ended: maps.Clone(t.ended), committed: maps.Clone(t.committed)}
}
