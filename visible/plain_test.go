package visible

import (
	"slices"
	"strconv"
	"strings"

	"waystation/api"
)

// The second, plain way: each thing is looked up in the entries anew, as the words say it; no lower layer is called.

// plainEntry tells whether an entry may be.
func plainEntry(e api.Entry) bool {
	const most = 1<<31 - 1
	if e.Epoch < 1 || e.Epoch > most || e.Num > most || e.Seq < 0 || e.Seq > most {
		return false
	}
	if e.Value < -most-1 || e.Value > most {
		return false
	}
	switch {
	case e.Kind == 1 && e.ID == -1:
		return e.Num == 0 && e.Seq == 0
	case e.Kind == 1:
		return e.ID >= 0 && e.ID <= 3 && e.Num >= 1
	case e.Kind == 2 || e.Kind == 3:
		return e.ID >= 0 && e.ID <= 3 && e.Num >= 1 && e.Seq == 0 && e.Value == 0
	}
	return false
}

// plainMay tells whether a log may be.
func plainMay(l []api.Entry) bool {
	for at, e := range l {
		if !plainEntry(e) || at > 0 && e.Epoch < l[at-1].Epoch {
			return false
		}
	}
	return len(l) <= 4096
}

// plainHas tells whether among some entries is one of that kind of an entry's transaction.
func plainHas(l []api.Entry, kind api.EntryKind, e api.Entry) bool {
	for _, x := range l {
		if x.ID == e.ID && x.Num == e.Num && x.Kind == kind {
			return true
		}
	}
	return false
}

// plainOpen tells whether an entry's transaction is open, told the first n entries.
func plainOpen(first []api.Entry, e api.Entry) bool {
	marked := plainHas(first, api.EntryCommit, e) || plainHas(first, api.EntryAbort, e)
	return e.ID != -1 && plainHas(first, api.EntryData, e) && !marked
}

// plainStable looks for the first entry of each open transaction, and takes the least.
func plainStable(l []api.Entry, n int) int {
	first := l[:n]
	stable := n
	for at, e := range first {
		if plainOpen(first, e) {
			stable = min(stable, at)
		}
	}
	return stable
}

// plainView takes of what is stable one entry after the other.
func plainView(l []api.Entry, n int) []int {
	first, stable := l[:n], plainStable(l, n)
	var all []int
	for at, e := range first {
		switch {
		case at >= stable, e.Kind != api.EntryData:
		case e.ID == -1, plainHas(first, api.EntryCommit, e):
			all = append(all, at)
		}
	}
	return all
}

// plainGood holds each entry against each one ahead of it.
func plainGood(l []api.Entry) bool {
	for at, e := range l {
		if plainEnded(l[:at], e) {
			return false
		}
	}
	return plainMay(l)
}

// plainEnded tells whether some entries have a marker of an entry's transaction.
func plainEnded(l []api.Entry, e api.Entry) bool {
	return plainHas(l, api.EntryCommit, e) || plainHas(l, api.EntryAbort, e)
}

// plainReader is a reader as the words say it.
type plainReader struct {
	log  []api.Entry
	at   int
	told []int
}

func (p *plainReader) push(e api.Entry) api.Errno {
	switch {
	case !plainEntry(e):
		return api.ErrArg
	case len(p.log) == 4096:
		return api.ErrLong
	case len(p.log) > 0 && e.Epoch < p.log[len(p.log)-1].Epoch:
		return api.ErrEpoch
	case plainEnded(p.log, e):
		return api.ErrGood
	}
	p.log = append(p.log, e)
	return api.OK
}

func (p *plainReader) to(n int) ([]int, api.Errno) {
	switch {
	case n < 0, n > len(p.log):
		return nil, api.ErrRange
	case n < p.at:
		return nil, api.ErrArg
	}
	var fresh []int
	for _, at := range plainView(p.log, n) {
		if !slices.Contains(p.told, at) {
			fresh = append(fresh, at)
		}
	}
	p.at = n
	p.told = append(p.told, fresh...)
	return fresh, api.OK
}

func (p plainReader) another() plainReader {
	return plainReader{log: slices.Clone(p.log), at: p.at, told: slices.Clone(p.told)}
}

// text is a log, or its end, for what a test tells: Epoch/ID:Num, d: data, c, a: markers, n: nobody's.
func text(l ...api.Entry) string {
	var b strings.Builder
	if len(l) > 16 {
		b.WriteString("(of " + strconv.Itoa(len(l)) + ") ")
		l = l[len(l)-16:]
	}
	for _, e := range l {
		b.WriteString(strconv.FormatInt(e.Epoch, 10) + "/")
		if e.ID == -1 {
			b.WriteString("n ")
			continue
		}
		kind := string(" dca"[min(max(e.Kind, 0), 3)])
		b.WriteString(strconv.Itoa(e.ID) + ":" + strconv.FormatInt(e.Num, 10) + kind + " ")
	}
	return b.String()
}
