package replica

import (
	"fmt"
	"math"
	"testing"

	"waystation/api"
)

func TestP11_1_New(t *testing.T) {
	for self := range api.MaxBrokers {
		for least := 1; least <= api.MaxBrokers; least++ {
			r, err := New(self, least)
			if r == nil || err != api.OK {
				t.Fatalf("New(%d, %d): %v, %v", self, least, r, err)
			}
			stands(t, r, api.Standing{Role: api.RoleNone})
			if len(r.Log()) != 0 || len(r.Visible()) != 0 {
				t.Error(told(r))
			}
			refuses(t, r, api.ErrLead, ask(), has(0, 1, 0), add(nobodys(0)), propose(self))
		}
	}
}

func TestP11_1_NewOfWhatMayNotBe(t *testing.T) {
	for _, self := range append(outside(api.MaxBrokers), 0, 3) {
		for _, least := range append(outside(api.MaxBrokers+1), 0, 1, 4) {
			may := (self == 0 || self == 3) && (least == 1 || least == 4)
			if r, err := New(self, least); (r != nil) != may || (err == api.OK) != may || err != api.OK && err != api.ErrArg {
				t.Errorf("New(%d, %d): %v, %v", self, least, r, err)
			}
		}
	}
}

// TestP11_1_P11_2_P11_3_Examples is the table of the chapter's section 'Examples'.
func TestP11_1_P11_2_P11_3_Examples(t *testing.T) {
	r := replicaOf(t, 0, 1)
	v := view(0, 1, 0, 0, 1)
	run(t, r, learn(v))
	answers(t, r, 0, add(nobodys(7)))
	run(t, r, flush())
	wantMarks(t, r, 1, 0)
	answers(t, r, api.Reply{Epoch: 1, Base: 1, Last: 1, High: 1}, serve(fetch(1, 1, 1, 1, 1), 4))
	wantMarks(t, r, 1, 1)
	run(t, r, crash(0))
	refuses(t, r, api.ErrOld, learn(v))
}

// inEachRole is replicas of broker 2 in epoch 5, each told what it is.
func inEachRole(t *testing.T) map[string]*Replica {
	t.Helper()
	leads, follows, crashed, without := replicaOf(t, 2, 1), replicaOf(t, 2, 1), replicaOf(t, 2, 1), replicaOf(t, 2, 1)
	run(t, leads, learn(view(2, 5, 7, 0, 2)), add(nobodys(1)), serve(fetch(3, 5, 0, 0, 0), 1))
	run(t, follows, learn(view(0, 5, 7, 0, 2)), take(reply(5, 0, 0, 0, log(5)...)))
	run(t, crashed, learn(view(2, 5, 7, 0, 2)), add(nobodys(1)), crash(1))
	run(t, without, learn(view(1, 4, 6, 1)), take(reply(4, 0, 0, 1, log(4)...)), learn(view(-1, 5, 7, 0, 2)))
	return map[string]*Replica{"leads": leads, "follows": follows, "crashed": crashed, "without": without}
}

func TestP11_1_LearnOfAnElderEpoch(t *testing.T) {
	for _, r := range inEachRole(t) {
		for _, epoch := range []int64{0, 1, 4} {
			for leader := -1; leader < 4; leader++ {
				refuses(t, r, api.ErrOld, learn(view(leader, epoch, 0, 0, 1, 2, 3)), learn(view(leader, epoch, 9, 0, 1, 2, 3)), learn(view(leader, epoch, math.MaxInt32, 0, 1, 2, 3)))
			}
		}
	}
}

func TestP11_1_LearnOfItsEpochWhileItLeads(t *testing.T) {
	r := inEachRole(t)["leads"]
	for leader := -1; leader < 4; leader++ {
		for _, version := range []int64{0, 6, 7} {
			refuses(t, r, api.ErrOld, learn(view(leader, 5, version, 0, 1, 2, 3)))
		}
	}
	// Who leads is not asked: it leads in that epoch, whoever says what.
	version := int64(7)
	for leader := -1; leader < 4; leader++ {
		version += 2
		run(t, r, learn(view(leader, 5, version, 0, 1, 2, 3)))
		stands(t, r, api.Standing{Role: api.RoleLead, Epoch: 5, Version: version, ISR: []int{0, 1, 2, 3}, Counts: []int{0, 1, 2, 3}, Known: []int{-1, -1, -1, 0}})
		refuses(t, r, api.ErrOld, learn(view(-1, 5, version, 2, 3)), learn(view(2, 5, version-1, 2, 3)))
	}
	run(t, r, learn(view(1, 5, math.MaxInt32, 1, 3)))
	stands(t, r, api.Standing{Role: api.RoleLead, Epoch: 5, Version: math.MaxInt32, ISR: []int{1, 3}, Counts: []int{1, 3}, Known: []int{-1, -1, -1, 0}})
	refuses(t, r, api.ErrOld, learn(view(2, 5, math.MaxInt32, 2)))
}

func TestP11_1_LearnOfItsEpochCounts(t *testing.T) {
	// Those who were proposed, and are not in step, count no more.
	r := leader(t, log(1, 1, 1), 0, 1)
	run(t, r, flush(), serve(fetch(1, 5, 3, 1, 1), 0), serve(fetch(2, 5, 3, 1, 3), 0), propose(0, 1, 2))
	stands(t, r, api.Standing{Role: api.RoleLead, Epoch: 5, Version: 5, Flushed: 3, High: 1, Begin: 3, ISR: []int{0, 1}, Counts: []int{0, 1, 2}, Known: []int{-1, 1, 3, -1}})
	run(t, r, learn(view(0, 5, 6, 0, 2)))
	stands(t, r, api.Standing{Role: api.RoleLead, Epoch: 5, Version: 6, Flushed: 3, High: 3, Begin: 3, ISR: []int{0, 2}, Counts: []int{0, 2}, Known: []int{-1, 1, 3, -1}})
	// High never gets less, whoever counts.
	run(t, r, learn(view(0, 5, 7, 0, 1, 2, 3)))
	wantMarks(t, r, 3, 3)
	// Itself out of step, what it has flushed does not count.
	r = leader(t, log(1, 1, 1), 0, 1)
	run(t, r, serve(fetch(1, 5, 2, 1, 2), 0))
	wantMarks(t, r, 0, 0)
	run(t, r, learn(view(1, 5, 6, 1)))
	wantMarks(t, r, 0, 2)
}

func TestP11_1_LearnOfItsEpochWhileItFollows(t *testing.T) {
	r := inEachRole(t)["follows"]
	was := told(r)
	for leader := -1; leader < 4; leader++ {
		for _, version := range []int64{0, 6, 7, 8, math.MaxInt32} {
			run(t, r, learn(view(leader, 5, version, 0, 1, 2, 3)))
			if told(r) != was {
				t.Errorf("%s, then %s", was, told(r))
			}
		}
	}
}

func TestP11_1_LearnOfItsEpochWhileItDoesNeither(t *testing.T) {
	for _, name := range []string{"crashed", "without"} {
		r := inEachRole(t)[name]
		was := r.Standing()
		for _, version := range []int64{0, 7, 8, math.MaxInt32} {
			refuses(t, r, api.ErrOld, learn(view(2, 5, version, 0, 1, 2, 3)), learn(view(-1, 5, version, 0, 1, 2, 3)))
			for _, leader := range []int{0, 1, 3} {
				c := r.Copy()
				run(t, c, learn(view(leader, 5, version, 0, 1, 2, 3)))
				want := was
				want.Role = api.RoleFollow
				stands(t, c, want)
				wantLog(t, c, r.Log())
			}
		}
	}
	// In epoch 0 too.
	r := replicaOf(t, 0, 1)
	refuses(t, r, api.ErrOld, learn(view(0, 0, 0, 0)), learn(view(-1, 0, 9, 0)))
	run(t, r, learn(view(3, 0, 0, 3)))
	stands(t, r, api.Standing{Role: api.RoleFollow})
}

func TestP11_1_LearnOfAGreaterEpoch(t *testing.T) {
	for name, r := range inEachRole(t) {
		was := r.Standing()
		for _, epoch := range []int64{6, 9, math.MaxInt32} {
			for leader := -1; leader < 4; leader++ {
				for _, version := range []int64{0, 6, 7, math.MaxInt32} {
					c := r.Copy()
					run(t, c, learn(view(leader, epoch, version, 0, 1, 2, 3)))
					want := api.Standing{Role: api.RoleFollow, Epoch: epoch, Flushed: was.Flushed, High: was.High}
					switch leader {
					case -1:
						want.Role = api.RoleNone
					case 2:
						want = api.Standing{Role: api.RoleLead, Epoch: epoch, Version: version, Flushed: was.Flushed, High: was.High, Begin: 1,
							ISR: []int{0, 1, 2, 3}, Counts: []int{0, 1, 2, 3}, Known: []int{-1, -1, -1, -1}}
					}
					stands(t, c, want)
					if fmt.Sprint(c.Log()) != fmt.Sprint(r.Log()) || len(c.Log()) != 1 {
						t.Errorf("%s: %s, then %s", name, told(r), told(c))
					}
				}
			}
		}
	}
}

func TestP11_1_LearnToLeadCounts(t *testing.T) {
	// Alone in step, it has committed what it flushed.
	r := follower(t, log(1, 1, 1)...)
	run(t, r, flush(), take(reply(1, 3, 1, 0, log(1)...)))
	wantMarks(t, r, 3, 0)
	run(t, r, learn(view(0, 2, 0, 0)))
	stands(t, r, api.Standing{Role: api.RoleLead, Epoch: 2, Flushed: 3, High: 3, Begin: 4, ISR: []int{0}, Counts: []int{0}, Known: []int{-1, -1, -1, -1}})
	// What was known in an elder epoch is known no more.
	r = leader(t, log(1, 1), 0, 1)
	run(t, r, flush(), serve(fetch(1, 5, 2, 1, 1), 0))
	wantMarks(t, r, 2, 1)
	run(t, r, learn(view(0, 6, 0, 0, 1)))
	stands(t, r, api.Standing{Role: api.RoleLead, Epoch: 6, Flushed: 2, High: 1, Begin: 2, ISR: []int{0, 1}, Counts: []int{0, 1}, Known: []int{-1, -1, -1, -1}})
}

func TestP11_1_LearnWhatMayNotBe(t *testing.T) {
	var bad []deed
	for _, leader := range []int{-2, 4, 5, math.MinInt, math.MaxInt, 1 << 32} {
		bad = append(bad, learn(view(leader, 6, 8, 0, 1, 2, 3)), learn(view(leader, 4, 8, 0, 1, 2, 3)), learn(view(leader, 6, 8, leader)))
	}
	for _, n := range []int64{-1, math.MinInt64, math.MaxInt32 + 1, math.MaxInt64, 1 << 32} {
		for leader := -1; leader < 4; leader++ {
			bad = append(bad, learn(view(leader, n, 8, 0, 1, 2, 3)), learn(view(leader, 6, n, 0, 1, 2, 3)), learn(view(leader, 4, n, 0, 1, 2, 3)))
		}
	}
	for _, isr := range [][]int{nil, {}, {1, 0, 2, 3}, {3, 2, 1, 0}, {0, 0, 1, 2, 3}, {0, 1, 2, 3, 3}, {0, 1, 1, 2, 3}, {-1, 0, 1, 2, 3}, {0, 1, 2, 3, 4}, {math.MinInt, 0, 1, 2, 3}, {0, 1, 2, 3, 1 << 32}} {
		for leader := -1; leader < 4; leader++ {
			bad = append(bad, learn(view(leader, 6, 8, isr...)), learn(view(leader, 5, 8, isr...)), learn(view(leader, 4, 0, isr...)))
		}
	}
	// Not the leader in it.
	for leader := range 4 {
		var others []int
		for broker := range 4 {
			if broker != leader {
				others = append(others, broker)
				bad = append(bad, learn(view(leader, 6, 8, broker)), learn(view(leader, 0, 0, broker)))
			}
		}
		bad = append(bad, learn(view(leader, 6, 8, others...)), learn(view(leader, 5, 8, others...)))
	}
	for _, r := range inEachRole(t) {
		refuses(t, r, api.ErrArg, bad...)
	}
}

func TestP11_1_LearnListsThatMayBe(t *testing.T) {
	for set := 1; set < 16; set++ {
		var isr []int
		for broker := range 4 {
			if set>>broker&1 == 1 {
				isr = append(isr, broker)
			}
		}
		r := replicaOf(t, isr[0], 4)
		run(t, r, learn(view(-1, 1, 0, isr...)), learn(view(isr[len(isr)-1], 2, 0, isr...)), learn(view(isr[0], 3, 0, isr...)))
		stands(t, r, api.Standing{Role: api.RoleLead, Epoch: 3, ISR: isr, Counts: isr, Known: []int{-1, -1, -1, -1}})
	}
}
