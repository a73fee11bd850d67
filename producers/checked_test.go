package producers

import (
	"slices"
	"testing"

	"waystation/api"
)

// transaction is an ID and a Num.
type transaction struct {
	id  int
	num int64
}

// followsP8_4 tells what of P8.4 a log breaks, or nothing. It goes over the log once, as one would read it aloud, and asks no table.
func followsP8_4(l []api.Entry) string {
	ended := map[transaction]int{}
	data := map[transaction][]int64{}
	last := map[int]int64{}
	for _, e := range l {
		if e.ID == -1 {
			continue
		}
		x := transaction{e.ID, e.Num}
		if ended[x] > 0 {
			return "something of a transaction stands behind its marker"
		}
		if e.Num < last[e.ID] {
			return "Nums get less"
		}
		last[e.ID] = e.Num
		if e.Kind == api.EntryData {
			data[x] = append(data[x], e.Seq)
		} else {
			ended[x]++
		}
	}
	open := map[int]int{}
	for x, seqs := range data {
		for i, seq := range seqs {
			if seq != int64(i) {
				return "Seqs are not 0, 1, 2 and so on"
			}
		}
		if ended[x] == 0 {
			open[x.id]++
		}
		if open[x.id] > 1 {
			return "two transactions of an ID are open"
		}
	}
	return ""
}

func TestP8_4_TheAskerFindsWhatIsBroken(t *testing.T) {
	for _, l := range [][]api.Entry{
		{d(1, 0), c(1), c(1)}, {d(1, 0), c(1), a(1)}, {d(1, 0), c(1), d(1, 1)}, {c(1), d(1, 0)},
		{d(1, 0), d(2, 0)}, {d(2, 0), d(1, 0)}, {d(2, 0), c(1)}, {c(2), d(1, 0)}, {c(2), c(1)},
		{d(1, 1)}, {d(1, 0), d(1, 0)}, {d(1, 0), d(1, 2)}, {d(1, 0), d(1, 1), d(1, 1)},
		{d(1, 0), by(1, d(1, 0)), d(2, 0)}, {by(3, d(1, 0)), n(), by(3, d(1, 0))},
	} {
		if followsP8_4(l) == "" {
			t.Errorf("%s: nothing is broken", text(l...))
		}
	}
	for _, l := range [][]api.Entry{
		nil, {n(), n()}, {d(1, 0), d(1, 1), c(1), d(3, 0)}, {c(4), c(5)}, {d(2, 0), by(1, d(1, 0)), by(1, a(1)), c(2)},
	} {
		if why := followsP8_4(l); why != "" {
			t.Errorf("%s: %s", text(l...), why)
		}
	}
}

// checkedLives goes through all logs of at most so many entries that Check takes, as they come, and tells how many.
func checkedLives(t *testing.T, table *Table, l, letters []api.Entry, steps int) int {
	if why := followsP8_4(l); why != "" {
		t.Fatalf("%s: %s", text(l...), why)
	}
	logs := 1
	if steps == 0 {
		return logs
	}
	for _, e := range letters {
		if table.Check(e) != api.OK {
			continue
		}
		if err := table.Append(e); err != api.OK {
			t.Fatalf("%s: Append(%s) of what Check took: %v", text(l...), text(e), err)
		}
		logs += checkedLives(t, table, append(slices.Clone(l), e), letters, steps-1)
		table.Truncate(len(l))
	}
	return logs
}

func TestP8_4_AllShortCheckedLogs(t *testing.T) {
	one := []api.Entry{n(), d(1, 0), d(1, 1), d(1, 2), d(2, 0), d(2, 1), d(3, 0), c(1), a(1), c(2), c(3)}
	two := []api.Entry{d(1, 0), d(1, 1), d(2, 0), a(1), c(2), by(3, d(1, 0)), by(3, d(2, 0)), by(3, d(2, 1)), by(3, c(1)), by(3, a(2))}
	if logs := checkedLives(t, New(), nil, one, 7); logs < 1000 {
		t.Error("too few:", logs)
	}
	if logs := checkedLives(t, New(), nil, two, 7); logs < 1000 {
		t.Error("too few:", logs)
	}
}

// TestP8_4_TakesWhatAWriterSends: a table that took nothing would break none of what follows, and be of no use.
func TestP8_4_TakesWhatAWriterSends(t *testing.T) {
	var l []api.Entry
	table := New()
	for num := int64(1); num <= 20; num++ {
		for id := range api.MaxIDs {
			for seq := range num % 4 {
				l = append(l, by(id, d(num, seq)))
			}
		}
		for id := range api.MaxIDs {
			l = append(l, n(), by(id, c(num)))
		}
	}
	for i, e := range l {
		if check, err := table.Check(e), table.Append(e); check != api.OK || err != api.OK {
			t.Fatal(text(l[:i+1]...), check, err)
		}
	}
	if why := followsP8_4(l); why != "" {
		t.Error(why)
	}
}

func TestP8_4_LongCheckedLogs(t *testing.T) {
	for seed := range 40 {
		p := dice(seed)
		table, met := New(), map[api.Errno]int{}
		for range 3000 {
			e := p.entry(table)
			err := table.Check(e)
			met[err]++
			if err == api.OK {
				table.Append(e)
			}
		}
		if why := followsP8_4(table.Log()); why != "" {
			t.Errorf("%d: %s: %s", seed, text(table.Log()...), why)
		}
		for _, err := range []api.Errno{api.OK, api.ErrEpoch, api.ErrFenced, api.ErrOpen, api.ErrDouble, api.ErrOrder} {
			if met[err] < 20 {
				t.Errorf("%d: %v was met %d times", seed, err, met[err])
			}
		}
		agrees(t, table, table.Log())
	}
}
