package producers

import (
	"strconv"
	"strings"

	"waystation/api"
)

// The second, plain way: a table is its entries alone, and each thing is looked up in them anew, as the words say it.

// plainMay tells whether an entry may be.
func plainMay(e api.Entry) bool {
	const most = 1<<31 - 1
	if e.Epoch < 1 || e.Epoch > most || e.Num > most || e.Seq < 0 || e.Seq > most {
		return false
	}
	if e.Value < -most-1 || e.Value > most {
		return false
	}
	switch {
	case e.Kind == 1 && e.ID == -1:
		return e.Num == 0 && e.Seq == 0
	case e.Kind == 1:
		return e.ID >= 0 && e.ID <= 3 && e.Num >= 1
	case e.Kind == 2 || e.Kind == 3:
		return e.ID >= 0 && e.ID <= 3 && e.Num >= 1 && e.Seq == 0 && e.Value == 0
	}
	return false
}

// plainAppend is the log with an entry more, or why not.
func plainAppend(l []api.Entry, e api.Entry) ([]api.Entry, api.Errno) {
	switch {
	case !plainMay(e):
		return l, api.ErrArg
	case len(l) == 4096:
		return l, api.ErrLong
	case len(l) > 0 && e.Epoch < l[len(l)-1].Epoch:
		return l, api.ErrEpoch
	}
	return append(l[:len(l):len(l)], e), api.OK
}

// plainOf appends them all, or tells the first error.
func plainOf(all []api.Entry) ([]api.Entry, api.Errno) {
	var l []api.Entry
	for _, e := range all {
		next, err := plainAppend(l, e)
		if err != api.OK {
			return nil, err
		}
		l = next
	}
	return l, api.OK
}

// plainIsOpen tells whether a transaction has data, and no marker.
func plainIsOpen(l []api.Entry, id int, num int64) bool {
	data, markers := 0, 0
	for _, e := range l {
		if e.ID != id || e.Num != num {
			continue
		}
		if e.Kind == api.EntryData {
			data++
		} else {
			markers++
		}
	}
	return data > 0 && markers == 0
}

// plainOpens goes over the log, so that they come by their first data.
func plainOpens(l []api.Entry, id int) []api.Open {
	var opens []api.Open
	seen := map[int64]bool{}
	for at, e := range l {
		if e.ID == id && e.Kind == api.EntryData && !seen[e.Num] && plainIsOpen(l, id, e.Num) {
			seen[e.Num] = true
			opens = append(opens, api.Open{Num: e.Num, First: at})
		}
	}
	return opens
}

// plainWriter looks for each of its numbers apart.
func plainWriter(l []api.Entry, id int) api.Writer {
	var w api.Writer
	for _, e := range l {
		if e.ID == id && e.Num > w.High {
			w.High = e.Num
		}
	}
	for _, e := range l {
		if e.ID == id && e.Num == w.High && e.Kind == api.EntryData && e.Seq >= w.Next {
			w.Next = e.Seq + 1
		}
	}
	for _, e := range l {
		if e.ID == id && e.Kind != api.EntryData && e.Num > w.Marked {
			w.Marked = e.Num
		}
	}
	w.Opens = plainOpens(l, id)
	return w
}

// plainStable goes up to the first entry of an open transaction.
func plainStable(l []api.Entry) int {
	for at, e := range l {
		if e.ID >= 0 && plainIsOpen(l, e.ID, e.Num) {
			return at
		}
	}
	return len(l)
}

// plainCheck asks what refuses an entry, told the log.
func plainCheck(l []api.Entry, e api.Entry) api.Errno {
	if _, err := plainAppend(l, e); err != api.OK {
		return err
	}
	if e.ID == -1 {
		return api.OK
	}
	return plainRefuse(plainWriter(l, e.ID), e)
}

// plainRefuse asks the same, told what the log has of the ID.
func plainRefuse(w api.Writer, e api.Entry) api.Errno {
	another := false
	for _, o := range w.Opens {
		another = another || o.Num != e.Num
	}
	next := w.Next
	if e.Num > w.High {
		next = 0
	}
	if e.Kind != api.EntryData {
		switch {
		case e.Num <= w.Marked:
			return api.ErrDouble
		case e.Num < w.High, another:
			return api.ErrFenced
		}
		return api.OK
	}
	switch {
	case e.Num <= w.Marked, e.Num < w.High:
		return api.ErrFenced
	case another:
		return api.ErrOpen
	case e.Num == w.High && e.Seq < w.Next:
		return api.ErrDouble
	case e.Seq != next:
		return api.ErrOrder
	}
	return api.OK
}

// text is a log, or its end, for what a test tells: Epoch/ID:Num.Seq, c, a: markers, n: nobody's.
func text(l ...api.Entry) string {
	var b strings.Builder
	if len(l) > 16 {
		b.WriteString("(of " + strconv.Itoa(len(l)) + ") ")
		l = l[len(l)-16:]
	}
	for _, e := range l {
		b.WriteString(strconv.FormatInt(e.Epoch, 10) + "/")
		who := strconv.Itoa(e.ID) + ":"
		num, seq := strconv.FormatInt(e.Num, 10), strconv.FormatInt(e.Seq, 10)
		switch {
		case e.ID == -1:
			b.WriteString("n ")
		case e.Kind == api.EntryData:
			b.WriteString(who + num + "." + seq + " ")
		default:
			b.WriteString(who + string(" dca"[min(max(e.Kind, 0), 3)]) + num + " ")
		}
	}
	return b.String()
}
