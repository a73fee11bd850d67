package replica

import (
	"fmt"
	"slices"
	"testing"

	"waystation/api"
	"waystation/meta"
)

// several is replicas of brokers 0, 1 and so on, the plain way of each, the controller, and what is on its way.
type several struct {
	walks []*walk
	m     *meta.Meta
	bag   []func(t *testing.T)
	// committed is the longest that any had below its High.
	committed []api.Entry
	seen      map[string]int
}

func newSeveral(t *testing.T, brokers, least int, seen map[string]int) *several {
	t.Helper()
	m, err := meta.New(api.Form{Brokers: brokers, Parts: 1, IDs: 1})
	if err != api.OK {
		t.Fatal(err)
	}
	s := &several{m: m, seen: seen}
	for broker := range brokers {
		w := newWalk(t, broker, least)
		w.seen = seen
		s.walks = append(s.walks, w)
	}
	return s
}

func (s *several) view(t *testing.T) api.View {
	v, err := s.m.View(0)
	if err != api.OK {
		t.Fatal(err)
	}
	return v
}

// tell puts the view as it is now, to a broker.
func (s *several) tell(t *testing.T, broker int) {
	v := s.view(t)
	s.bag = append(s.bag, func(t *testing.T) { s.walks[broker].step(t, learn(v)) })
}

// asks puts what a broker asks, to another one, whose answer is put to it.
func (s *several) asks(t *testing.T, from, to, most int) {
	w := s.walks[from]
	f, err := w.r.Copy().Ask()
	w.step(t, ask())
	if err != api.OK {
		return
	}
	s.bag = append(s.bag, func(t *testing.T) {
		p, err := s.walks[to].r.Copy().Serve(f, most)
		s.walks[to].step(t, serve(f, most))
		if p.Cut {
			s.seen["Cut "+api.OK.Error()]++
		}
		if err == api.OK {
			s.bag = append(s.bag, func(t *testing.T) { s.walks[from].step(t, take(p)) })
		}
	})
}

// proposes puts what a broker asks the controller for.
func (s *several) proposes(t *testing.T, broker int, isr []int) {
	w := s.walks[broker]
	a, err := w.r.Copy().Propose(isr)
	w.step(t, propose(isr...))
	if err == api.OK {
		s.bag = append(s.bag, func(t *testing.T) {
			s.seen["Alter "+s.m.Alter(0, a.Leader, a.Epoch, a.Version, a.ISR).Error()]++
		})
	}
}

// comes lets a message come; it is on its way no more, or comes again, or is lost.
func (s *several) comes(t *testing.T, p *dice) {
	if len(s.bag) == 0 {
		return
	}
	at := p.pick(len(s.bag))
	m := s.bag[at]
	if !p.seldom(5) {
		s.bag = slices.Delete(s.bag, at, at+1)
	}
	if !p.seldom(8) {
		m(t)
	}
}

// controls lets the controller do something.
func (s *several) controls(p *dice, unclean bool) {
	broker := p.pick(len(s.walks))
	switch p.pick(8) {
	case 0:
		s.m.Fence(broker)
	case 1, 2, 3:
		s.m.Register(broker)
	default:
		s.seen["Elect "+s.m.Elect(0, broker, unclean).Error()]++
	}
}

// step does something, picked; few calls are made where they are refused.
func (s *several) step(t *testing.T, p *dice, unclean bool) {
	broker := p.pick(len(s.walks))
	w, v := s.walks[broker], s.view(t)
	if v.Leader != -1 && p.seldom(2) {
		w = s.walks[v.Leader]
	}
	switch k := p.pick(50); {
	case k < 1:
		s.controls(p, unclean)
	case k < 5 || v.Leader == -1:
		if v.Leader == -1 {
			s.controls(p, unclean)
		}
		s.tell(t, w.p.self)
	case k < 11:
		s.asks(t, broker, max(v.Leader, 0), p.pick(4))
	case k < 14:
		w.step(t, flush())
	case k < 15 && p.seldom(3):
		w.step(t, crash(p.pick(3)))
		// Mostly the controller hears of it: else it takes for the leader who leads no more.
		if !p.seldom(4) {
			s.m.Fence(w.p.self)
		}
	case k < 17:
		s.proposes(t, w.p.self, p.brokers(w.p.self))
	case k < 20:
		w.step(t, add(p.entry(w.p.Log())))
	default:
		s.comes(t, p)
	}
}

// isBeginning tells whether a log begins with another.
func isBeginning(a, of []api.Entry) bool { return len(a) <= len(of) && slices.Equal(a, of[:len(a)]) }

// stays tells what of that does not hold: what was committed once is a beginning of what is; what each has below its High is one of that; who is in step has all of it, and it lasts there.
func (s *several) stays(t *testing.T) string {
	for _, w := range s.walks {
		l := w.r.Log()
		high := l[:w.r.Standing().High]
		switch {
		case isBeginning(s.committed, high):
			s.committed = high
		case !isBeginning(high, s.committed):
			return fmt.Sprintf("broker %d has %v committed beside %v", w.p.self, high, s.committed)
		}
	}
	for _, broker := range s.view(t).ISR {
		w := s.walks[broker]
		if !isBeginning(s.committed, w.r.Log()[:w.r.Standing().Flushed]) {
			return fmt.Sprintf("broker %d is in step, and has %s, not %v", broker, told(w.r), s.committed)
		}
	}
	return ""
}

// TestP11_1_To_P11_5_Several: replicas that ask, serve and take of each other. As long as none but those in step are elected, what was committed stays (P0.2).
func TestP11_1_To_P11_5_Several(t *testing.T) {
	t.Parallel()
	seen := map[string]int{}
	committed := 0
	for seed := range 300 {
		p := dice(seed)
		s := newSeveral(t, 2+seed%3, 1+seed/3%2, seen)
		for i := range 800 {
			s.step(t, &p, false)
			if why := s.stays(t); why != "" {
				t.Fatalf("seed %d, step %d: %s", seed, i, why)
			}
		}
		committed += len(s.committed)
	}
	if committed < 2000 {
		t.Errorf("%d entries were committed in all", committed)
	}
	w := &walk{seen: seen}
	w.wantSeen(t, 100, "Learn", api.OK, api.ErrOld)
	w.wantSeen(t, 100, "Serve", api.OK, api.ErrOld, api.ErrLead)
	w.wantSeen(t, 100, "Take", api.OK, api.ErrOld, api.ErrLead)
	w.wantSeen(t, 100, "Cut", api.OK)
	w.wantSeen(t, 100, "Propose", api.OK, api.ErrBehind)
	w.wantSeen(t, 100, "Alter", api.OK, api.ErrStale)
	w.wantSeen(t, 100, "Elect", api.OK, api.ErrDead)
}

// TestP11_1_To_P11_5_SeveralUnclean: behind elections of who was not in step something may be lost, but each does as said.
func TestP11_1_To_P11_5_SeveralUnclean(t *testing.T) {
	t.Parallel()
	for seed := range 100 {
		p := dice(seed)
		s := newSeveral(t, 2+seed%3, 1+seed/3%2, map[string]int{})
		for range 500 {
			s.step(t, &p, true)
		}
	}
}
