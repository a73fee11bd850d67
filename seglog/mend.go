package seglog

import (
	"cmp"
	"iter"
	"slices"

	"waystation/api"
	"waystation/wire"
)

// read takes in what the disk's files tell of the log.
func (l *Log) read() {
reading:
	for e := range l.written() {
		switch {
		case len(l.entries) == api.MaxLog:
			break reading
		case ends(l.entries, e, epoch):
			break reading
		default:
			l.entries = append(l.entries, e)
		}
	}
}

// written goes over the entries of segment behind segment, up to one that has fewer than it may.
func (l *Log) written() iter.Seq[api.Entry] {
	find := l.finder()
	return func(yield func(api.Entry) bool) {
		for i := 0; ; i += l.per {
			_, file := find(i)
			segment := l.segment(file)
			for _, e := range segment {
				if !yield(e) {
					return
				}
			}
			if len(segment) < l.per {
				return
			}
		}
	}
}

// segment is the entries of a segment's file, none if it is not there.
func (l *Log) segment(file string) []api.Entry {
	b, _ := l.disk.Read(file)
	// So many bytes hold all frames that count; what is behind them may be long, and tells nothing.
	b = b[:min(len(b), l.per*api.MaxFrame)]
	told := wire.All(b).Entries
	return told[:min(len(told), l.per)]
}

// mend takes from the disk what the log's files have behind what they tell.
func (l *Log) mend() {
	l.mendEnd()
	for _, file := range slices.Backward(l.Files()) {
		if !l.holds(file, len(l.entries)) {
			l.disk.Remove(file)
		}
	}
}

// mendEnd mends the segment where the log ends. A full log ends in the segment of its last entry, as there is none behind.
func (l *Log) mendEnd() {
	end := min(len(l.entries), api.MaxLog-1)
	first, file := l.finder()(end)
	b, err := l.disk.Read(file)
	good := size(l.entries[first:])
	if err == api.OK && (good == 0 || good < len(b)) {
		l.leave(first, file, len(l.entries))
	}
}

// ends tells whether a list ends ahead of a thing, as this would fall behind the list's last one, by what counts of them.
func ends[T any, N cmp.Ordered](l []T, next T, counts func(T) N) bool {
	return len(l) > 0 && counts(next) < counts(l[len(l)-1])
}
