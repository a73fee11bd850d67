package epochs

import (
	"waystation/api"
)

// The second, plain way: each thing as the words say it, entry by entry, with no thought of what follows from the order.

// plainMay asks each entry and each pair of entries.
func plainMay(l []api.Entry) bool {
	for i, e := range l {
		if !(1 <= e.Epoch && e.Epoch <= 1<<31-1) {
			return false
		}
		if i > 0 && l[i-1].Epoch > e.Epoch {
			return false
		}
	}
	return len(l) <= 4096
}

// plainStarts takes an entry's epoch if no entry ahead of it has it.
func plainStarts(l []api.Entry) []api.Start {
	var all []api.Start
	for i, e := range l {
		first := true
		for _, ahead := range l[:i] {
			if ahead.Epoch == e.Epoch {
				first = false
			}
		}
		if first {
			all = append(all, api.Start{Epoch: e.Epoch, At: i})
		}
	}
	return all
}

// plainLast goes to the last entry.
func plainLast(l []api.Entry) int64 {
	var epoch int64
	for _, e := range l {
		epoch = e.Epoch
	}
	return epoch
}

// plainFits asks for n 0, and for any other n, apart.
func plainFits(l []api.Entry, n int, epoch int64) bool {
	if n == 0 {
		return epoch == 0
	}
	return len(l) >= n && l[n-1].Epoch == epoch
}

// plainEnd looks for the greatest epoch first, then for its last entry.
func plainEnd(l []api.Entry, epoch int64) (int64, int) {
	var greatest int64
	for _, e := range l {
		if e.Epoch <= epoch && e.Epoch > greatest {
			greatest = e.Epoch
		}
	}
	behind := 0
	for i, e := range l {
		if e.Epoch == greatest {
			behind = i + 1
		}
	}
	return greatest, behind
}

// plainCut takes each entry that is to be kept.
func plainCut(l []api.Entry, epoch int64, end int) []api.Entry {
	var kept []api.Entry
	for i, e := range l {
		if i < end && e.Epoch <= epoch {
			kept = append(kept, e)
		}
	}
	return kept
}

// plainNearer is what a log keeps that does not fit.
func plainNearer(leader, l []api.Entry) []api.Entry {
	epoch, end := plainEnd(leader, plainLast(l))
	kept := plainCut(l, epoch, end)
	if len(kept) == len(l) {
		kept = kept[:len(kept)-1]
	}
	return kept
}

// plainMeet comes nearer once, and then meets.
func plainMeet(leader, l []api.Entry) (int, int) {
	if plainFits(leader, len(l), plainLast(l)) {
		return len(l), 0
	}
	kept, times := plainMeet(leader, plainNearer(leader, l))
	return kept, times + 1
}

// plainAlike is how many entries two logs begin with alike, all that an entry has taken.
func plainAlike(a, b []api.Entry) int {
	for i := range a {
		if i >= len(b) || a[i] != b[i] {
			return i
		}
	}
	return len(a)
}
