package replica

import (
	"math"
	"slices"
	"strings"
	"testing"

	"waystation/api"
)

// walk is a replica, the plain way of it, and the calls that were made of both.
type walk struct {
	r     *Replica
	p     *plain
	deeds []string
	// seen is how often each call was answered each error, told the role.
	seen map[string]int
}

func newWalk(t *testing.T, self, least int) *walk {
	t.Helper()
	return &walk{r: replicaOf(t, self, least), p: newPlain(self, least), seen: map[string]int{}}
}

// another goes on apart.
func (w *walk) another() *walk {
	return &walk{w.r.Copy(), w.p.another(), slices.Clone(w.deeds), w.seen}
}

// text is the last calls.
func (w *walk) text() string { return strings.Join(w.deeds[max(0, len(w.deeds)-20):], " ") }

// step makes a call of both, and holds them against each other.
func (w *walk) step(t *testing.T, d deed) {
	t.Helper()
	w.deeds = append(w.deeds, d.text)
	was, copied := told(w.r), w.r.Copy()
	got, want := d.do(w.r), d.do(w.p)
	name, _, _ := strings.Cut(d.text, "[")
	w.seen[name+" "+want.err.Error()]++
	if got != want {
		t.Fatalf("%s: %v, want %v", w.text(), got, want)
	}
	now := told(w.r)
	if now != told(w.p) {
		t.Fatalf("%s: %s, want %s", w.text(), now, told(w.p))
	}
	if Same(w.r, copied) != (now == was) || Same(copied, w.r) != (now == was) {
		t.Fatalf("%s: Same of %s and %s: %v", w.text(), now, was, now != was)
	}
	if told(copied) != was {
		t.Fatalf("%s: the copy was %s, is %s", w.text(), was, told(copied))
	}
	if got.err != api.OK && (now != was || got.told != d.zero) {
		t.Fatalf("%s was refused, told %s, and changed %s to %s", w.text(), got.told, was, now)
	}
	if why := follows(copied.Standing(), w.r.Standing(), len(w.r.Log()), d.text); why != "" {
		t.Fatalf("%s: %s: %s, then %s", w.text(), why, was, now)
	}
}

// follows tells what of P11.5 does not hold of a call, and of how all stood ahead of it and behind it.
func follows(was, now api.Standing, length int, text string) string {
	cuts := strings.HasPrefix(text, "Crash") || strings.HasPrefix(text, "Take") && strings.Contains(text, "Cut:true")
	switch {
	case now.High < was.High && !cuts:
		return "High got less"
	case now.High > length || now.Flushed > length || now.High < 0:
		return "High, or Flushed, beyond the log's end"
	case now.Epoch < was.Epoch:
		return "the epoch got less"
	case now.Role != api.RoleLead && (now.Version != 0 || now.Begin != 0 || now.ISR != nil || now.Counts != nil || now.Known != nil):
		return "what only leads has, of one that does not lead"
	case now.Role == api.RoleLead && (len(now.Known) != api.MaxBrokers || now.Begin > length || len(now.ISR) == 0 || len(now.Counts) == 0):
		return "what leads, without what it has"
	}
	return ""
}

// wantSeen fails unless each call was answered each of these errors at least so often.
func (w *walk) wantSeen(t *testing.T, least int, name string, errs ...api.Errno) {
	t.Helper()
	for _, err := range errs {
		if got := w.seen[name+" "+err.Error()]; got < least {
			t.Errorf("%s was answered %v %d times", name, err, got)
		}
	}
}

// all makes all rows of so many calls, out of those that are asked at each place.
func (w *walk) all(t *testing.T, deeds func(p *plain) []deed, depth int) {
	if depth == 0 {
		return
	}
	for _, d := range deeds(w.p) {
		next := w.another()
		next.step(t, d)
		next.all(t, deeds, depth-1)
	}
}

// near is mostly a number, seldom one beside.
func (p *dice) near(n int64) int64 { return n + []int64{0, 0, 0, 0, 0, 0, 1, -1}[p.pick(8)] }

// broker is one, seldom one that is none.
func (p *dice) broker() int {
	if p.seldom(30) {
		return []int{-1, 4, -2, 100}[p.pick(4)]
	}
	return p.pick(4)
}

// brokers is a list that mostly rises, and mostly has a broker.
func (p *dice) brokers(broker int) []int {
	var l []int
	for x := range 4 {
		if x == broker && !p.seldom(12) || p.seldom(2) {
			l = append(l, x)
		}
	}
	switch p.pick(24) {
	case 0:
		slices.Reverse(l)
	case 1:
		l = append(l, p.broker())
	case 2:
		l = append([]int{p.broker()}, l...)
	}
	return l
}

// view is one that often is of the replica's epoch, or of one a little greater.
func (p *dice) view(c *plain) api.View {
	s := c.Standing()
	v := api.View{Leader: c.self, Epoch: s.Epoch + []int64{-1, 0, 0, 0, 1, 1, 2}[p.pick(7)], Version: s.Version + int64(p.pick(4)) - 1}
	if p.seldom(2) {
		v.Leader = p.pick(6) - 1
	}
	v.ISR = p.brokers(v.Leader)
	switch p.pick(60) {
	case 0:
		v.Epoch = math.MaxInt32 + 1
	case 1:
		v.Version = math.MaxInt32 + 1
	case 2:
		v.Leader = -2
	}
	return v
}

// entry is one that often may come next, told what a log has.
func (p *dice) entry(l []api.Entry) api.Entry {
	id := p.pick(2)
	var num, seq int64 = 1, 0
	for _, e := range l {
		switch {
		case e.ID != id:
		case e.Kind == api.EntryData:
			num, seq = e.Num, e.Seq+1
		default:
			num, seq = e.Num+1, 0
		}
	}
	e := data(id, p.near(num), p.near(seq))
	switch p.pick(6) {
	case 0, 1:
		e = nobodys(int64(p.pick(9)) - 4)
	case 2:
		e = commits(id, p.near(num))
	case 3:
		e = aborts(id, p.near(num))
	}
	e.Epoch = int64(p.pick(9)) - 2
	switch p.pick(60) {
	case 0:
		e.Kind = api.EntryKind(p.pick(6) - 1)
	case 1:
		e.ID = p.broker()
	case 2:
		e.Value = math.MaxInt32 + int64(p.pick(2))
	case 3:
		e.Seq = math.MaxInt32 + int64(p.pick(2))
	case 4:
		e.Num = math.MaxInt32 + int64(p.pick(2))
	}
	return e
}

// fetch is one that often is of the leader's epoch, and often fits.
func (p *dice) fetch(c *plain) api.Fetch {
	n := len(c.entries)
	f := api.Fetch{From: (c.self + 1 + p.pick(3)) % 4, Epoch: p.near(c.epoch), Offset: p.pick(n + 2)}
	if p.seldom(2) {
		f.Offset = n
	}
	if f.Offset <= n && !p.seldom(4) {
		f.Last = c.epochAt(f.Offset)
	} else {
		f.Last = int64(p.pick(int(c.epoch)%50 + 2))
	}
	f.Flushed = f.Offset - min(f.Offset, p.pick(3))
	switch p.pick(40) {
	case 0:
		f.From = p.broker()
	case 1:
		f.From = c.self
	case 2:
		f.Flushed = f.Offset + 1
	case 3:
		f.Offset = []int{-1, math.MaxInt, 1 << 33}[p.pick(3)]
	case 4:
		f.Last = []int64{-1, math.MaxInt64, 1 << 31}[p.pick(3)]
	case 5:
		f.Flushed = -1
	}
	return f
}

// reply is one that often is of the follower's epoch, and often fits at its end.
func (p *dice) reply(c *plain) api.Reply {
	n := len(c.entries)
	a := api.Reply{Epoch: p.near(c.epoch), Base: n, Last: c.epochAt(n), High: p.pick(n + 4)}
	if p.seldom(10) {
		a.Base = int(p.near(int64(n)))
	}
	if p.seldom(10) {
		a.Last = p.near(a.Last)
	}
	if p.seldom(3) {
		a.Cut, a.CutEpoch, a.CutEnd = true, int64(p.pick(int(c.epoch)%50+2)), p.pick(n+2)
	}
	epoch := max(a.Last, 1)
	l := c.Log()
	for range p.pick(4) {
		if p.seldom(3) {
			epoch += int64(p.pick(3))
		}
		e := p.entry(l)
		e.Epoch = epoch
		a.Entries = append(a.Entries, e)
		l = append(l, e)
	}
	switch p.pick(80) {
	case 0:
		a.Epoch = -1
	case 1:
		a.CutEpoch = -1
	case 2:
		a.CutEnd = -1
	case 3:
		a.High = []int{-1, math.MaxInt}[p.pick(2)]
	case 4:
		if len(a.Entries) > 0 {
			a.Entries[p.pick(len(a.Entries))].Epoch--
		}
	}
	return a
}

// deed is a call that often is not refused, told the plain way.
func (p *dice) deed(c *plain) deed {
	k := p.pick(20)
	switch leads := c.office != nil; {
	case k < 1:
		return learn(p.view(c))
	case k < 2:
		return flush()
	case k < 3 && p.seldom(2):
		return crash(p.pick(4) - p.pick(3))
	case k < 4 || k < 15 && p.seldom(6):
		return p.any(c)
	case k < 11 && leads:
		return add(p.entry(c.Log()))
	case k < 15 && leads:
		return serve(p.fetch(c), p.pick(5)-p.pick(2))
	case k < 17 && leads:
		return propose(p.brokers(c.self)...)
	case k < 17 && c.follows:
		return take(p.reply(c))
	case k < 17:
		return learn(p.view(c))
	}
	return has(p.pick(4)-1, int64(p.pick(3)), int64(p.pick(3)))
}

// any is a call, whatever the role.
func (p *dice) any(c *plain) deed {
	switch p.pick(6) {
	case 0:
		return add(p.entry(c.Log()))
	case 1:
		return serve(p.fetch(c), p.pick(5)-p.pick(2))
	case 2:
		return take(p.reply(c))
	case 3:
		return propose(p.brokers(c.self)...)
	case 4:
		return crash(p.pick(4) - p.pick(3))
	}
	return ask()
}

func TestP11_1_To_P11_5_ManyLongRows(t *testing.T) {
	t.Parallel()
	seen := map[string]int{}
	for seed := range 800 {
		p := dice(seed)
		w := newWalk(t, seed%4, 1+seed/4%4)
		w.seen = seen
		for range 200 {
			w.step(t, p.deed(w.p))
		}
	}
	w := &walk{seen: seen}
	w.wantSeen(t, 100, "Learn", api.OK, api.ErrArg, api.ErrOld)
	w.wantSeen(t, 100, "Append", api.OK, api.ErrArg, api.ErrLead, api.ErrFew, api.ErrEpoch, api.ErrFenced, api.ErrOpen, api.ErrDouble, api.ErrOrder)
	w.wantSeen(t, 100, "Flush", api.OK)
	w.wantSeen(t, 100, "Ask", api.OK, api.ErrLead)
	w.wantSeen(t, 100, "Serve", api.OK, api.ErrArg, api.ErrLead, api.ErrOld)
	w.wantSeen(t, 100, "Take", api.OK, api.ErrArg, api.ErrLead, api.ErrOld)
	w.wantSeen(t, 100, "Propose", api.OK, api.ErrArg, api.ErrLead, api.ErrBehind)
	w.wantSeen(t, 100, "Crash", api.OK, api.ErrArg)
	w.wantSeen(t, 100, "Has", api.OK, api.ErrLead)
}

// TestP11_1_To_P11_5_RowsNearTheEnd: numbers near MaxNumber.
func TestP11_1_To_P11_5_RowsNearTheEnd(t *testing.T) {
	t.Parallel()
	seen := map[string]int{}
	for seed := range 200 {
		p := dice(seed)
		w := newWalk(t, seed%4, 1+seed/4%2)
		w.seen = seen
		w.step(t, learn(view(w.p.self, math.MaxInt32-int64(p.pick(4)), math.MaxInt32-int64(p.pick(4)), w.p.self)))
		for range 100 {
			w.step(t, p.deed(w.p))
		}
	}
	w := &walk{seen: seen}
	w.wantSeen(t, 100, "Learn", api.OK, api.ErrArg, api.ErrOld)
	w.wantSeen(t, 100, "Append", api.OK)
}

// aboutLeading are calls of broker 0 as it leads, mostly.
func aboutLeading(p *plain) []deed {
	s := p.Standing()
	n := len(p.entries)
	all := []deed{
		learn(view(0, s.Epoch+1, s.Version, 0, 1)), learn(view(0, s.Epoch, s.Version+1, 0)), learn(view(0, s.Epoch, s.Version+1, 0, 1, 2)), learn(view(-1, s.Epoch+1, 0, 1)),
		add(nobodys(int64(n))), flush(), propose(0, 1), propose(0, 2), crash(1),
	}
	for _, from := range []int{1, 2} {
		all = append(all, serve(fetch(from, s.Epoch, n, p.epochAt(n), n), 1), serve(fetch(from, s.Epoch, n/2, p.epochAt(n/2), 0), 2), serve(fetch(from, s.Epoch, n+1, 1, n), 2))
	}
	return all
}

// aboutFollowing are calls of broker 0 as it follows, mostly.
func aboutFollowing(p *plain) []deed {
	s := p.Standing()
	n := len(p.entries)
	last := p.epochAt(n)
	return []deed{
		learn(view(1, s.Epoch, 0, 1)), learn(view(1, s.Epoch+1, 0, 1)), learn(view(0, s.Epoch+1, 0, 0)), flush(), crash(0), ask(),
		take(reply(s.Epoch, n, last, n+1, in(max(last, 1), nobodys(1)), in(s.Epoch+1, nobodys(2)))), take(reply(s.Epoch, n, last, n/2)),
		take(cutting(s.Epoch, n, last, last, n)), take(cutting(s.Epoch, n, last, last-min(last, 1), n)), take(cutting(s.Epoch, n, last, last, n/2)),
	}
}

func TestP11_1_To_P11_5_AllShortRowsAboutLeading(t *testing.T) {
	t.Parallel()
	w := newWalk(t, 0, 1)
	w.step(t, learn(view(0, 1, 0, 0)))
	w.all(t, aboutLeading, 4)
	w.wantSeen(t, 100, "Propose", api.OK, api.ErrBehind)
	w = newWalk(t, 0, 2)
	for _, d := range []deed{learn(view(0, 1, 0, 0, 1)), add(nobodys(1)), add(nobodys(2)), flush()} {
		w.step(t, d)
	}
	w.all(t, aboutLeading, 4)
	w.wantSeen(t, 100, "Append", api.OK, api.ErrFew, api.ErrLead)
	w.wantSeen(t, 100, "Serve", api.OK, api.ErrLead)
	w.wantSeen(t, 100, "Propose", api.OK, api.ErrBehind, api.ErrLead)
}

func TestP11_1_To_P11_5_AllShortRowsAboutFollowing(t *testing.T) {
	t.Parallel()
	w := newWalk(t, 0, 1)
	w.step(t, learn(view(1, 1, 0, 1)))
	w.all(t, aboutFollowing, 5)
	w.wantSeen(t, 1000, "Take", api.OK, api.ErrLead)
	w.wantSeen(t, 1000, "Ask", api.OK, api.ErrLead)
}
