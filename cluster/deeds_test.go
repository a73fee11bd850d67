package cluster

import (
	"fmt"
	"math"
	"slices"
	"strings"
	"testing"

	"waystation/api"
	"waystation/replica"
)

// answer is what a call answers, as a text beside the error.
type answer struct {
	told string
	err  api.Errno
}

// deed is a call, how it is told, and what it answers beside an error.
type deed struct {
	text string
	do   func(c clusters) answer
	zero string
}

// deedOf is a call that answers an error alone.
func deedOf(do func(c clusters) api.Errno, name string, args ...any) deed {
	return deed{fmt.Sprintf("%s%+v", name, args), func(c clusters) answer { return answer{"", do(c)} }, ""}
}

// asking is a call that answers something beside an error.
func asking[T any](do func(c clusters) (T, api.Errno), name string, args ...any) deed {
	var zero T
	return deed{fmt.Sprintf("%s%+v", name, args), func(c clusters) answer {
		x, err := do(c)
		return answer{fmt.Sprintf("%+v", x), err}
	}, fmt.Sprintf("%+v", zero)}
}

// chosen is what a choice is called.
func chosen(k api.ChoiceKind) string {
	l := []string{"None", "Elect", "Fence", "Register", "Tell", "Fetch", "Flush", "Crash", "Propose", "Mark", "Report", "Deliver", "Double", "Drop", "Write", "Expire"}
	if k < 0 || int(k) >= len(l) {
		return fmt.Sprint(int(k))
	}
	return l[k]
}

func step(x api.Choice) deed {
	return deedOf(func(c clusters) api.Errno { return c.Step(x) }, chosen(x.Kind), x.A, x.B, x.C)
}

func put(m api.Msg) deed {
	return deedOf(func(c clusters) api.Errno { return c.Put(m) }, "Put", m)
}

func begin(id int) deed {
	return asking(func(c clusters) (int64, api.Errno) { return c.Init(id) }, "Init", id)
}

func add(id int, session int64, part int) deed {
	return asking(func(c clusters) (int64, api.Errno) { return c.Add(id, session, part) }, "Add", id, session, part)
}

func end(id int, session int64, commit bool, offset int64) deed {
	return deedOf(func(c clusters) api.Errno { return c.End(id, session, commit, offset) }, "End", id, session, commit, offset)
}

func copyAt(part, broker int) deed {
	return asking(func(c clusters) (string, api.Errno) {
		r, err := c.Replica(part, broker)
		if r == nil {
			return "", err
		}
		return standing(r), err
	}, "Replica", part, broker)
}

func committed(part int) deed {
	return asking(func(c clusters) ([]api.Entry, api.Errno) { return c.Committed(part) }, "Committed", part)
}

func seen(part int) deed {
	return asking(func(c clusters) ([]api.Entry, api.Errno) { return c.Visible(part) }, "Visible", part)
}

// Choices, by what they take.

func elect(part, broker int) api.Choice { return api.Choice{Kind: api.ChElect, A: part, B: broker} }

func unclean(part, broker int) api.Choice {
	return api.Choice{Kind: api.ChElect, A: part, B: broker, C: 1}
}

func fence(broker int) api.Choice { return api.Choice{Kind: api.ChFence, A: broker} }

func register(broker int) api.Choice { return api.Choice{Kind: api.ChRegister, A: broker} }

func tell(part, broker int) api.Choice { return api.Choice{Kind: api.ChTell, A: part, B: broker} }

func fetch(part, from, to int) api.Choice {
	return api.Choice{Kind: api.ChFetch, A: part, B: from, C: to}
}

func flush(part, broker int) api.Choice { return api.Choice{Kind: api.ChFlush, A: part, B: broker} }

func crash(broker, keep int) api.Choice { return api.Choice{Kind: api.ChCrash, A: broker, B: keep} }

func propose(part, broker, bits int) api.Choice {
	return api.Choice{Kind: api.ChPropose, A: part, B: broker, C: bits}
}

func mark(id int) api.Choice { return api.Choice{Kind: api.ChMark, A: id} }

func report(part, broker int) api.Choice { return api.Choice{Kind: api.ChReport, A: part, B: broker} }

func deliver(at int) api.Choice { return api.Choice{Kind: api.ChDeliver, A: at} }

func double(at int) api.Choice { return api.Choice{Kind: api.ChDouble, A: at} }

func drop(at int) api.Choice { return api.Choice{Kind: api.ChDrop, A: at} }

func write(part, broker, value int) api.Choice {
	return api.Choice{Kind: api.ChWrite, A: part, B: broker, C: value}
}

func expire(id int) api.Choice { return api.Choice{Kind: api.ChExpire, A: id} }

// Messages, by what they have.

func viewTo(broker, part int, v api.View) api.Msg {
	return api.Msg{Kind: api.MsgView, To: broker, Part: part, View: v}
}

func fetchTo(broker, part int, f api.Fetch) api.Msg {
	return api.Msg{Kind: api.MsgFetch, To: broker, Part: part, Fetch: f}
}

func replyTo(broker, part int, p api.Reply) api.Msg {
	return api.Msg{Kind: api.MsgReply, To: broker, Part: part, Reply: p}
}

func alterOf(part, leader int, epoch, version int64, isr ...int) api.Msg {
	return api.Msg{Kind: api.MsgAlter, To: -1, Part: part, Alter: api.Alter{Leader: leader, Epoch: epoch, Version: version, ISR: isr}}
}

func markTo(broker, part int, e api.Entry) api.Msg {
	return api.Msg{Kind: api.MsgMark, To: broker, Part: part, Entry: e}
}

func markedOf(part, id int, num int64) api.Msg {
	return api.Msg{Kind: api.MsgMarked, To: -1, Part: part, Entry: api.Entry{ID: id, Num: num}}
}

func dataTo(broker, part int, e api.Entry) api.Msg {
	return api.Msg{Kind: api.MsgData, To: broker, Part: part, Entry: e}
}

// view is what the controller says of a leader, an epoch, a version, and who is in step.
func view(leader int, epoch, version int64, isr ...int) api.View {
	return api.View{Leader: leader, Epoch: epoch, Version: version, ISR: isr}
}

// asks is what a broker asks.
func asks(from int, epoch int64, offset int, last int64, flushed int) api.Fetch {
	return api.Fetch{From: from, Epoch: epoch, Offset: offset, Last: last, Flushed: flushed}
}

// nobodys is data of nobody.
func nobodys(value int64) api.Entry { return api.Entry{ID: -1, Kind: api.EntryData, Value: value} }

// data are those of a transaction.
func data(id int, num, seq int64) api.Entry {
	return api.Entry{ID: id, Num: num, Seq: seq, Kind: api.EntryData, Value: num%100*10 + seq%10}
}

// commits and aborts are markers.
func commits(id int, num int64) api.Entry {
	return api.Entry{ID: id, Num: num, Kind: api.EntryCommit}
}

func aborts(id int, num int64) api.Entry {
	return api.Entry{ID: id, Num: num, Kind: api.EntryAbort}
}

// in is the same entries of an epoch.
func in(epoch int64, l ...api.Entry) []api.Entry {
	l = slices.Clone(l)
	for at := range l {
		l[at].Epoch = epoch
	}
	return l
}

// form is how many there are of each.
func formOf(brokers, parts, ids int) api.Form {
	return api.Form{Brokers: brokers, Parts: parts, IDs: ids}
}

// clusterOf is a new one.
func clusterOf(t *testing.T, f api.Form, least int) *Cluster {
	t.Helper()
	c, err := New(f, least)
	if c == nil || err != api.OK {
		t.Fatalf("New(%+v, %d): %v, %v", f, least, c, err)
	}
	return c
}

// led is a cluster whose broker 0 leads each partition in epoch 1, and all others follow; all know it.
func led(t *testing.T, f api.Form, least int) *Cluster {
	t.Helper()
	c := clusterOf(t, f, least)
	for part := range f.Parts {
		steps(t, c, elect(part, 0))
		told := make([]api.Choice, 0, 2*f.Brokers)
		for broker := range f.Brokers {
			told = append(told, tell(part, broker), deliver(0))
		}
		steps(t, c, told...)
	}
	return c
}

// steps makes choices, none of which may be refused.
func steps(t *testing.T, c *Cluster, l ...api.Choice) {
	t.Helper()
	for _, x := range l {
		if err := c.Step(x); err != api.OK {
			t.Fatalf("%s: %v", step(x).text, err)
		}
	}
}

// does makes calls, none of which may be refused.
func does(t *testing.T, c *Cluster, deeds ...deed) {
	t.Helper()
	for _, d := range deeds {
		if a := d.do(c); a.err != api.OK {
			t.Fatalf("%s: %v", d.text, a.err)
		}
	}
}

// passes lets the replica of a broker have all that another one has, and that one know of it by the next fetch.
func passes(t *testing.T, c *Cluster, part, from, to int) {
	t.Helper()
	r, _ := c.Replica(part, from)
	for range 2 + len(r.Log())/4 {
		steps(t, c, fetch(part, to, from), deliver(-1), deliver(-1), flush(part, to))
	}
}

// appends lets the leader of a partition have entries, that all have and that are committed.
func appends(t *testing.T, c *Cluster, part, leader int, l ...api.Entry) {
	t.Helper()
	for _, e := range l {
		does(t, c, put(dataTo(leader, part, e)), step(deliver(-1)))
	}
	steps(t, c, flush(part, leader))
	v, _ := c.Meta().View(part)
	for _, broker := range v.ISR {
		if broker != leader {
			passes(t, c, part, leader, broker)
		}
	}
}

// refuses fails unless each call is refused with that error, and changes nothing.
func refuses(t *testing.T, c *Cluster, want api.Errno, deeds ...deed) {
	t.Helper()
	for _, d := range deeds {
		was, copied := told(c), c.Copy()
		if got := d.do(c); got != (answer{d.zero, want}) {
			t.Errorf("%s of %s: %v, want %v", d.text, was, got, want)
		}
		if told(c) != was || !Same(c, copied) {
			t.Errorf("%s was refused, and changed %s to %s", d.text, was, told(c))
		}
	}
}

// stepsRefused fails unless each choice is refused with that error, and changes nothing.
func stepsRefused(t *testing.T, c *Cluster, want api.Errno, l ...api.Choice) {
	t.Helper()
	for _, x := range l {
		refuses(t, c, want, step(x))
	}
}

// stepsAnswered fails unless each choice is answered that.
func stepsAnswered(t *testing.T, c *Cluster, want api.Errno, l ...api.Choice) {
	t.Helper()
	for _, x := range l {
		if got := c.Step(x); got != want {
			t.Errorf("%s: %v, want %v", step(x).text, got, want)
		}
	}
}

// answers fails unless a call is answered that.
func answers(t *testing.T, c *Cluster, want any, d deed) {
	t.Helper()
	if got := d.do(c); got != (answer{fmt.Sprintf("%+v", want), api.OK}) {
		t.Errorf("%s: %v, want %+v", d.text, got, want)
	}
}

// comes fails unless a message that comes is answered that; if it is refused, then all is as it was.
func comes(t *testing.T, c *Cluster, want api.Errno, l ...api.Msg) {
	t.Helper()
	for _, m := range l {
		was := told(c)
		does(t, c, put(m))
		if got := c.Step(deliver(-1)); got != want {
			t.Errorf("%+v, of %s: %v, want %v", m, was, got, want)
		}
		if want != api.OK && told(c) != was {
			t.Errorf("%+v was refused, and changed %s to %s", m, was, told(c))
		}
	}
}

// wantBag fails unless these messages are in the bag.
func wantBag(t *testing.T, c *Cluster, want ...api.Msg) {
	t.Helper()
	if got := fmt.Sprintf("%+v", c.Bag()); got != fmt.Sprintf("%+v", want) {
		t.Errorf("in the bag %s, want %+v", got, want)
	}
}

// wantLog fails unless a replica has that log, so much of it flushed, so much committed.
func wantLog(t *testing.T, c *Cluster, part, broker, flushed, high int, want ...api.Entry) {
	t.Helper()
	r, err := c.Replica(part, broker)
	if err != api.OK {
		t.Fatal(err)
	}
	s := r.Standing()
	if fmt.Sprint(r.Log()) != fmt.Sprint(want) || s.Flushed != flushed || s.High != high {
		t.Errorf("partition %d, broker %d: %s, want %v, Flushed %d, High %d", part, broker, standing(r), want, flushed, high)
	}
}

// wantView fails unless the controller says that of a partition.
func wantView(t *testing.T, c *Cluster, part int, want api.View) {
	t.Helper()
	if got, err := c.Meta().View(part); err != api.OK || fmt.Sprint(got) != fmt.Sprint(want) {
		t.Errorf("partition %d: %+v, %v, want %+v", part, got, err, want)
	}
}

// wantWriting fails unless the controller says that of an ID.
func wantWriting(t *testing.T, c *Cluster, id int, want api.Writing) {
	t.Helper()
	if got, err := c.Meta().Writing(id); err != api.OK || fmt.Sprint(got) != fmt.Sprint(want) {
		t.Errorf("ID %d: %+v, %v, want %+v", id, got, err, want)
	}
}

// standing is how a replica stands, and its log.
func standing(r *replica.Replica) string { return fmt.Sprintf("%+v %+v", r.Standing(), r.Log()) }

// told is how all stands.
func told(c clusters) string {
	var b strings.Builder
	m := c.Meta()
	f := m.Form()
	fmt.Fprintf(&b, "%+v, bag %+v", f, c.Bag())
	for id := range f.IDs {
		w, _ := m.Writing(id)
		fmt.Fprintf(&b, "\n\tID %d: %+v", id, w)
	}
	for broker := range f.Brokers {
		lives, _ := m.Lives(broker)
		fmt.Fprintf(&b, " %v", lives)
	}
	for part := range f.Parts {
		v, _ := m.View(part)
		l, err := c.Committed(part)
		s, wrong := c.Visible(part)
		fmt.Fprintf(&b, "\n\tpartition %d: %+v, committed %+v %v, visible %+v %v", part, v, l, err, s, wrong)
		for broker := range f.Brokers {
			r, err := c.Replica(part, broker)
			fmt.Fprintf(&b, "\n\t\t%d: %s %v", broker, standing(r), err)
		}
	}
	return b.String()
}

// nones is what is no cluster.
func nones() []*Cluster {
	return []*Cluster{nil, {}, new(Cluster).Copy(), (*Cluster)(nil).Copy()}
}

// outside is numbers that are none of 0 to n - 1.
func outside(n int) []int {
	return []int{-1, n, n + 1, -2, math.MaxInt, math.MinInt, 1 << 32, -1 << 32}
}

// dice are picks that are the same in each run.
type dice uint64

func (p *dice) pick(n int) int {
	*p = *p*6364136223846793005 + 1442695040888963407
	return int(uint64(*p)>>33) % n
}

// seldom is so once in n times.
func (p *dice) seldom(n int) bool { return p.pick(n) == 0 }
