package meta

import (
	"fmt"
	"math"
	"slices"
	"testing"

	"waystation/api"
)

// answer is what a call that changes something answers.
type answer struct {
	n   int64
	err api.Errno
}

// deed is a call that changes something, and how it is told.
type deed struct {
	text string
	do   func(c controls) answer
}

// deedOf is a call of that name with those arguments.
func deedOf(do func(c controls) answer, name string, args ...any) deed {
	return deed{fmt.Sprintf("%s%v", name, args), do}
}

func fence(broker int) deed {
	return deedOf(func(c controls) answer { return answer{0, c.Fence(broker)} }, "Fence", broker)
}

func register(broker int) deed {
	return deedOf(func(c controls) answer { return answer{0, c.Register(broker)} }, "Register", broker)
}

func elect(part, broker int) deed {
	return deedOf(func(c controls) answer { return answer{0, c.Elect(part, broker, false)} }, "Elect", part, broker)
}

func unclean(part, broker int) deed {
	return deedOf(func(c controls) answer { return answer{0, c.Elect(part, broker, true)} }, "Unclean", part, broker)
}

func alter(part, leader int, epoch, version int64, isr ...int) deed {
	return deedOf(func(c controls) answer { return answer{0, c.Alter(part, leader, epoch, version, isr)} }, "Alter", part, leader, epoch, version, isr)
}

func begin(id int) deed {
	return deedOf(func(c controls) answer { n, err := c.Init(id); return answer{n, err} }, "Init", id)
}

func add(id int, session int64, part int) deed {
	return deedOf(func(c controls) answer { n, err := c.Add(id, session, part); return answer{n, err} }, "Add", id, session, part)
}

func commit(id int, session, offset int64) deed {
	return deedOf(func(c controls) answer { return answer{0, c.End(id, session, true, offset)} }, "Commit", id, session, offset)
}

func abort(id int, session, offset int64) deed {
	return deedOf(func(c controls) answer { return answer{0, c.End(id, session, false, offset)} }, "Abort", id, session, offset)
}

func marked(id int, num int64, part int) deed {
	return deedOf(func(c controls) answer { return answer{0, c.Marked(id, num, part)} }, "Marked", id, num, part)
}

// controller is a new one of so many brokers, partitions, IDs.
func controller(t *testing.T, brokers, parts, ids int) *Meta {
	t.Helper()
	f := api.Form{Brokers: brokers, Parts: parts, IDs: ids}
	m, err := New(f)
	if m == nil || err != api.OK {
		t.Fatalf("New(%v): %v, %v", f, m, err)
	}
	return m
}

// run makes calls, none of which may be refused.
func run(t *testing.T, m *Meta, deeds ...deed) {
	t.Helper()
	for _, d := range deeds {
		if a := d.do(m); a.err != api.OK {
			t.Fatalf("%s: %v", d.text, a.err)
		}
	}
}

// answers fails unless a call is answered that number.
func answers(t *testing.T, m *Meta, n int64, d deed) {
	t.Helper()
	if got := d.do(m); got != (answer{n, api.OK}) {
		t.Errorf("%s: %v, want %d", d.text, got, n)
	}
}

// refuses fails unless each call is refused with that error, and changes nothing.
func refuses(t *testing.T, m *Meta, want api.Errno, deeds ...deed) {
	t.Helper()
	for _, d := range deeds {
		was, copied := told(m), m.Copy()
		if got := d.do(m); got != (answer{0, want}) {
			t.Errorf("%s: %v, want %v", d.text, got, want)
		}
		if now := told(m); now != was || !Same(m, copied) {
			t.Errorf("%s was refused, and changed %s to %s", d.text, was, now)
		}
	}
}

// told is all that is told of a controller, as one text. What is nil and what is empty mean the same there.
func told(c controls) string {
	f := c.Form()
	all := []any{f}
	for broker := range f.Brokers {
		lives, err := c.Lives(broker)
		all = append(all, lives, err)
	}
	for part := range f.Parts {
		v, err := c.View(part)
		all = append(all, v, err)
	}
	for id := range f.IDs {
		w, err := c.Writing(id)
		all = append(all, w, err)
	}
	return fmt.Sprint(all...)
}

func wantView(t *testing.T, m *Meta, part, leader int, epoch, version int64, isr ...int) {
	t.Helper()
	v, err := m.View(part)
	if err != api.OK || v.Leader != leader || v.Epoch != epoch || v.Version != version || !slices.Equal(v.ISR, isr) {
		t.Errorf("View(%d): %v, %v, want %d %d %d %v", part, v, err, leader, epoch, version, isr)
	}
}

func wantWriting(t *testing.T, m *Meta, id int, session, num int64, state api.TxnState, offset, next int64, parts ...int) {
	t.Helper()
	w, err := m.Writing(id)
	if err != api.OK || w.Session != session || w.Num != num || w.State != state || w.Offset != offset || w.Next != next || !slices.Equal(w.Parts, parts) {
		t.Errorf("Writing(%d): %v, %v, want %d %d %d %v %d %d", id, w, err, session, num, state, parts, offset, next)
	}
}

func wantLives(t *testing.T, m *Meta, want ...bool) {
	t.Helper()
	for broker, lives := range want {
		if got, err := m.Lives(broker); got != lives || err != api.OK {
			t.Errorf("Lives(%d): %v, %v, want %v", broker, got, err, lives)
		}
	}
}

// nones are controllers that are not there, or that no call made.
func nones() []*Meta {
	refused, _ := New(api.Form{Brokers: 5, Parts: 1, IDs: 1})
	return []*Meta{nil, {}, new(Meta), refused}
}

// outside are numbers of things of which there are so many, that are none.
func outside(n int) []int {
	return []int{-1, n, n + 1, 5, -2, -4, 64, 255, 1 << 32, -1 << 32, 1<<32 + 1, math.MinInt32, math.MaxInt32, math.MinInt, math.MinInt + 1, math.MaxInt}
}

// wild are numbers far from all that count.
func wild() []int64 {
	return []int64{-1, -2, math.MinInt32, math.MinInt64, 1<<31 - 1, 1 << 31, 1 << 32, 1<<32 + 1, math.MaxInt64}
}

// dice are picks that are the same in each run.
type dice uint64

func (p *dice) pick(n int) int {
	*p = *p*6364136223846793005 + 1442695040888963407
	return int(uint64(*p)>>33) % n
}

// one is mostly a number of a thing of which there are n, seldom one beside.
func (p *dice) one(n int) int {
	if p.pick(20) == 0 {
		return []int{-1, n}[p.pick(2)]
	}
	return p.pick(n)
}

// near is mostly a number, seldom one beside.
func (p *dice) near(n int64) int64 { return n + []int64{0, 0, 0, 0, 0, 0, 1, -1}[p.pick(8)] }

// brokers is a list that mostly rises, and mostly has a broker.
func (p *dice) brokers(n, broker int) []int {
	var l []int
	for x := range n {
		if x == broker && p.pick(10) > 0 || p.pick(2) == 0 {
			l = append(l, x)
		}
	}
	switch p.pick(16) {
	case 0:
		slices.Reverse(l)
	case 1:
		l = append(l, p.one(n))
	case 2:
		l = append([]int{p.one(n)}, l...)
	}
	return l
}

// deed is a call that often is not refused, told the plain way.
func (p *dice) deed(c *plain) deed {
	f := c.form
	broker, part, id := p.one(f.Brokers), p.one(f.Parts), p.one(f.IDs)
	v, _ := c.View(part)
	w, _ := c.Writing(id)
	leader := v.Leader
	if p.pick(10) == 0 {
		leader = broker
	}
	switch p.pick(12) {
	case 0:
		return fence(broker)
	case 1, 2:
		return register(broker)
	case 3:
		return elect(part, broker)
	case 4:
		return unclean(part, broker)
	case 5, 6:
		return alter(part, leader, p.near(v.Epoch), p.near(v.Version), p.brokers(f.Brokers, leader)...)
	case 7:
		return begin(id)
	case 8, 9:
		return add(id, p.near(w.Session), part)
	case 10:
		offset := p.near(w.Offset + int64(p.pick(3)))
		return []func(int, int64, int64) deed{commit, commit, abort}[p.pick(3)](id, p.near(w.Session), offset)
	}
	return marked(id, p.near(w.Num), part)
}
