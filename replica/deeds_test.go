package replica

import (
	"fmt"
	"math"
	"testing"

	"waystation/api"
)

// answer is what a call answers, as a text beside the error.
type answer struct {
	told string
	err  api.Errno
}

// deed is a call, how it is told, and what it answers beside an error.
type deed struct {
	text string
	do   func(c copies) answer
	zero string
}

// deedOf is a call that answers an error alone.
func deedOf(do func(c copies) api.Errno, name string, args ...any) deed {
	return deed{fmt.Sprintf("%s%+v", name, args), func(c copies) answer { return answer{"", do(c)} }, ""}
}

// asking is a call that answers something beside an error.
func asking[T any](do func(c copies) (T, api.Errno), name string, args ...any) deed {
	var zero T
	return deed{fmt.Sprintf("%s%+v", name, args), func(c copies) answer {
		x, err := do(c)
		return answer{fmt.Sprintf("%+v", x), err}
	}, fmt.Sprintf("%+v", zero)}
}

func learn(v api.View) deed {
	return deedOf(func(c copies) api.Errno { return c.Learn(v) }, "Learn", v)
}

func add(e api.Entry) deed {
	return asking(func(c copies) (int, api.Errno) { return c.Append(e) }, "Append", e)
}

func flush() deed { return deedOf(copies.Flush, "Flush") }

func ask() deed { return asking(copies.Ask, "Ask") }

func serve(f api.Fetch, most int) deed {
	return asking(func(c copies) (api.Reply, api.Errno) { return c.Serve(f, most) }, "Serve", f, most)
}

func take(p api.Reply) deed {
	return deedOf(func(c copies) api.Errno { return c.Take(p) }, "Take", p)
}

func propose(isr ...int) deed {
	return asking(func(c copies) (api.Alter, api.Errno) { return c.Propose(isr) }, "Propose", isr)
}

func crash(keep int) deed {
	return deedOf(func(c copies) api.Errno { return c.Crash(keep) }, "Crash", keep)
}

func has(id int, num, seq int64) deed {
	return asking(func(c copies) (bool, api.Errno) { return c.Has(id, num, seq) }, "Has", id, num, seq)
}

// Views of a leader, an epoch, a version, and who is in step.
func view(leader int, epoch, version int64, isr ...int) api.View {
	return api.View{Leader: leader, Epoch: epoch, Version: version, ISR: isr}
}

// fetch is what a broker asks.
func fetch(from int, epoch int64, offset int, last int64, flushed int) api.Fetch {
	return api.Fetch{From: from, Epoch: epoch, Offset: offset, Last: last, Flushed: flushed}
}

// reply is one that cuts nothing.
func reply(epoch int64, base int, last int64, high int, entries ...api.Entry) api.Reply {
	return api.Reply{Epoch: epoch, Base: base, Last: last, High: high, Entries: entries}
}

// cutting is a reply that cuts.
func cutting(epoch int64, base int, last int64, to int64, end int) api.Reply {
	return api.Reply{Epoch: epoch, Base: base, Last: last, Cut: true, CutEpoch: to, CutEnd: end}
}

// nobodys is data of nobody.
func nobodys(value int64) api.Entry { return api.Entry{ID: -1, Kind: api.EntryData, Value: value} }

// data are those of a transaction.
func data(id int, num, seq int64) api.Entry {
	return api.Entry{ID: id, Num: num, Seq: seq, Kind: api.EntryData, Value: num%100*10 + seq%10}
}

// commits and aborts are markers.
func commits(id int, num int64) api.Entry {
	return api.Entry{ID: id, Num: num, Kind: api.EntryCommit}
}

func aborts(id int, num int64) api.Entry {
	return api.Entry{ID: id, Num: num, Kind: api.EntryAbort}
}

// in is the same entry of an epoch.
func in(epoch int64, e api.Entry) api.Entry {
	e.Epoch = epoch
	return e
}

// log is data of nobody of those epochs.
func log(epochs ...int64) []api.Entry {
	var l []api.Entry
	for at, epoch := range epochs {
		l = append(l, in(epoch, nobodys(int64(at))))
	}
	return l
}

// replicaOf is a new one.
func replicaOf(t *testing.T, self, least int) *Replica {
	t.Helper()
	r, err := New(self, least)
	if r == nil || err != api.OK {
		t.Fatalf("New(%d, %d): %v, %v", self, least, r, err)
	}
	return r
}

// follower is one of broker 0 that follows broker 1 in epoch 1, and has a log.
func follower(t *testing.T, l ...api.Entry) *Replica {
	t.Helper()
	r := replicaOf(t, 0, 1)
	run(t, r, learn(view(1, 1, 1, 1)), take(reply(1, 0, 0, 0, l...)))
	return r
}

// leader is one of broker 0 that has a log, and then leads in epoch 5, Version 5, with some in step.
func leader(t *testing.T, l []api.Entry, isr ...int) *Replica {
	t.Helper()
	r := follower(t, l...)
	run(t, r, learn(view(0, 5, 5, isr...)))
	return r
}

// run makes calls, none of which may be refused.
func run(t *testing.T, r *Replica, deeds ...deed) {
	t.Helper()
	for _, d := range deeds {
		if a := d.do(r); a.err != api.OK {
			t.Fatalf("%s: %v", d.text, a.err)
		}
	}
}

// answers fails unless a call is answered that.
func answers(t *testing.T, r *Replica, want any, d deed) {
	t.Helper()
	if got := d.do(r); got != (answer{fmt.Sprintf("%+v", want), api.OK}) {
		t.Errorf("%s: %v, want %+v", d.text, got, want)
	}
}

// refuses fails unless each call is refused with that error, and changes nothing.
func refuses(t *testing.T, r *Replica, want api.Errno, deeds ...deed) {
	t.Helper()
	for _, d := range deeds {
		was, copied := told(r), r.Copy()
		if got := d.do(r); got != (answer{d.zero, want}) {
			t.Errorf("%s of %s: %v, want %v", d.text, was, got, want)
		}
		if told(r) != was || !Same(r, copied) {
			t.Errorf("%s was refused, and changed %s to %s", d.text, was, told(r))
		}
	}
}

// told is how all stands.
func told(c copies) string { return fmt.Sprintf("%+v %+v %+v", c.Standing(), c.Log(), c.Visible()) }

// stands fails unless a replica stands so.
func stands(t *testing.T, r *Replica, want api.Standing) {
	t.Helper()
	if got := fmt.Sprintf("%+v", r.Standing()); got != fmt.Sprintf("%+v", want) {
		t.Errorf("%s, want %+v", got, want)
	}
}

// wantLog fails unless a replica has that log.
func wantLog(t *testing.T, r *Replica, want []api.Entry) {
	t.Helper()
	if got := fmt.Sprint(r.Log()); got != fmt.Sprint(want) {
		t.Errorf("the log is %v, want %v", got, want)
	}
}

// wantMarks fails unless so many entries last, and are committed.
func wantMarks(t *testing.T, r *Replica, flushed, high int) {
	t.Helper()
	if s := r.Standing(); s.Flushed != flushed || s.High != high {
		t.Errorf("Flushed %d, High %d, want %d, %d", s.Flushed, s.High, flushed, high)
	}
}

// nones is what is no replica.
func nones() []*Replica {
	return []*Replica{nil, {}, new(Replica).Copy(), (*Replica)(nil).Copy()}
}

// outside is numbers that are none of 0 to n - 1.
func outside(n int) []int {
	return []int{-1, n, n + 1, -2, math.MaxInt, math.MinInt, 1 << 32, -1 << 32}
}

// dice are picks that are the same in each run.
type dice uint64

func (p *dice) pick(n int) int {
	*p = *p*6364136223846793005 + 1442695040888963407
	return int(uint64(*p)>>33) % n
}

// seldom is so once in n times.
func (p *dice) seldom(n int) bool { return p.pick(n) == 0 }
