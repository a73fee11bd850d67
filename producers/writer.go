package producers

import (
	"cmp"
	"iter"
	"maps"
	"slices"

	"waystation/api"
)

// writer is what a log has of an ID.
type writer struct {
	high, next, marked int64
	opens              map[int64]int      // where the first data of each open transaction stand
	ended              map[int64]struct{} // each transaction that has a marker: data behind it do not open it again
}

func newWriter() writer {
	return writer{opens: map[int64]int{}, ended: map[int64]struct{}{}}
}

// note lets the ID have an entry at an offset.
func (w *writer) note(at int, e api.Entry) {
	if e.Num > w.high {
		w.high, w.next = e.Num, 0
	}
	if e.Kind == api.EntryData {
		w.noteData(at, e)
	} else {
		w.noteMarker(e.Num)
	}
}

func (w *writer) noteData(at int, e api.Entry) {
	if e.Num == w.high {
		// Not just 1 more: what is appended may be out of order.
		w.next = max(w.next, e.Seq+1)
	}
	_, ended := w.ended[e.Num]
	_, open := w.opens[e.Num]
	if !ended && !open {
		w.opens[e.Num] = at
	}
}

func (w *writer) noteMarker(num int64) {
	w.marked = max(w.marked, num)
	w.ended[num] = struct{}{}
	delete(w.opens, num)
}

// otherOpen tells whether a transaction is open that is not the one of that Num.
func (w *writer) otherOpen(num int64) bool {
	others := len(w.opens)
	if _, open := w.opens[num]; open {
		others--
	}
	return others > 0
}

// told is the same as the document tells it.
func (w *writer) told() api.Writer {
	all := api.Writer{High: w.high, Next: w.next, Marked: w.marked}
	for num, first := range byValue(w.opens) {
		all.Opens = append(all.Opens, api.Open{Num: num, First: first})
	}
	return all
}

// byValue tells the keys of a map and their values, rising by these; no two keys may have the same value, as then the map's own order would be told.
func byValue[K comparable, V cmp.Ordered](m map[K]V) iter.Seq2[K, V] {
	keys := slices.SortedFunc(maps.Keys(m), func(a, b K) int { return cmp.Compare(m[a], m[b]) })
	return func(yield func(K, V) bool) {
		for _, k := range keys {
			if !yield(k, m[k]) {
				return
			}
		}
	}
}
