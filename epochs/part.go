package epochs

import (
	"iter"

	"waystation/api"
)

// asked tells why a log can't be asked for an epoch and a number.
func asked(l []api.Entry, epoch int64, n int) api.Errno {
	if epoch < 0 || n < 0 {
		goto mayNot
	}
	if !May(l) {
		goto mayNot
	}
	return api.OK
mayNot:
	return api.ErrArg
}

// starts tells each epoch that a log has, rising, and where it begins.
func starts(l []api.Entry) iter.Seq[api.Start] {
	return func(yield func(api.Start) bool) {
		var epoch int64
		for at, e := range l {
			if e.Epoch == epoch {
				continue
			}
			epoch = e.Epoch
			if !yield(api.Start{Epoch: epoch, At: at}) {
				return
			}
		}
	}
}

// last is the epoch of a log's last entry, 0 of none: no entry has that one.
func last(l []api.Entry) int64 {
	if len(l) == 0 {
		return 0
	}
	return l[len(l)-1].Epoch
}

// fits tells whether a log has n entries or more, the last of these n of that epoch.
func fits(l []api.Entry, n int, epoch int64) bool {
	return n <= len(l) && last(l[:n]) == epoch
}

// end is the greatest epoch of a log that is not above that one, and the offset behind its last entry.
func end(l []api.Entry, epoch int64) (int64, int) {
	at := notAbove(l, epoch)
	return last(l[:at]), at
}

// cut is how many entries ahead of an end have an epoch that is not above that one.
func cut(l []api.Entry, epoch int64, end int) int {
	return min(notAbove(l, epoch), end)
}

// notAbove is how many entries have an epoch that is not above that one; as epochs never get less, the log begins with them.
func notAbove(l []api.Entry, epoch int64) int {
	return howMany(l, func(e api.Entry) bool { return e.Epoch <= epoch })
}

// howMany is how many things a list begins with of which something holds, if it holds of none behind the first of which it does not: then halving finds it.
func howMany[T any](l []T, holds func(T) bool) int {
	from, to := 0, len(l)
	for from < to {
		half := from + (to-from)/2
		if holds(l[half]) {
			from = half + 1
		} else {
			to = half
		}
	}
	return from
}

// meet is how many entries a log keeps till it fits the leader's, and how often it came nearer. It ends, as a log gets shorter each time, and one of no entries fits.
func meet(leader, l []api.Entry) (kept, times int) {
nearer:
	for {
		epoch := last(l)
		if fits(leader, len(l), epoch) {
			break nearer
		}
		of, at := end(leader, epoch)
		// One less at least: where the leader has that epoch too, but only further behind, the end alone would cut nothing.
		l = l[:min(cut(l, of, at), len(l)-1)]
		times++
	}
	return len(l), times
}
