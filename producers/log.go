package producers

import (
	"iter"

	"waystation/api"
)

// nobody is the ID of entries that are nobody's.
const nobody = -1

// log is entries, at offsets from 0 on.
type log []api.Entry

// all tells each entry, with its offset.
func (l log) all() iter.Seq2[int, api.Entry] {
	return func(yield func(int, api.Entry) bool) {
		for at, e := range l {
			if !yield(at, e) {
				return
			}
		}
	}
}

// epoch is that of the last entry, 0 of none: no entry's is less.
func (l log) epoch() int64 {
	if len(l) == 0 {
		return 0
	}
	return l[len(l)-1].Epoch
}
