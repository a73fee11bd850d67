package epochs

import (
	"slices"
	"testing"

	"waystation/api"
)

// dice are picks that are the same in each run.
type dice uint64

func (d *dice) pick(n int) int {
	*d = *d*6364136223846793005 + 1442695040888963407
	return int(uint64(*d)>>33) % n
}

// life is some logs, of which each leader has an epoch of its own, and others copy them.
type life struct {
	logs  [][]api.Entry
	leads []int64 // the epoch in which a log's owner leads, 0: in none
	epoch int64
	value int64
}

func begun(n int) life {
	return life{logs: make([][]api.Entry, n), leads: make([]int64, n)}
}

// another is the same life, that goes on apart.
func (f life) another() life {
	f.logs, f.leads = slices.Clone(f.logs), slices.Clone(f.leads)
	for i, l := range f.logs {
		f.logs[i] = slices.Clone(l)
	}
	return f
}

// elect lets one lead in an epoch that nobody had; those that led go on.
func (f *life) elect(who int) bool {
	f.epoch++
	f.leads[who] = f.epoch
	return true
}

// write appends an entry like which there is no other one, if the one leads.
func (f *life) write(who int) bool {
	if f.leads[who] == 0 || len(f.logs[who]) == api.MaxLog {
		return false
	}
	f.value++
	f.logs[who] = append(f.logs[who], api.Entry{Epoch: f.leads[who], ID: -1, Kind: api.EntryData, Value: f.value})
	return true
}

// lose takes the last entries of one that leads no more.
func (f *life) lose(who, n int) bool {
	if len(f.logs[who]) == 0 {
		return false
	}
	f.leads[who] = 0
	f.logs[who] = f.logs[who][:max(0, len(f.logs[who])-n)]
	return true
}

// copy lets one that leads no more take entries from one that leads, once its log fits.
func (f *life) copy(who, from, n int) bool {
	if who == from || f.leads[from] == 0 {
		return false
	}
	f.leads[who] = 0
	leader := f.logs[from]
	kept, _ := plainMeet(leader, f.logs[who])
	l := f.logs[who][:kept]
	f.logs[who] = append(l, leader[kept:min(len(leader), kept+n)]...)
	return true
}

// seen is how far a test came.
type seen struct {
	most, all int
	parted    bool
}

// holds fails if of two logs P7.3 does not hold.
func (s *seen) holds(t *testing.T, leader, l []api.Entry) {
	t.Helper()
	kept, times, err := Meet(leader, l)
	starts, _ := Starts(l)
	alike := plainAlike(leader, l)
	if err != api.OK || kept != alike || times > len(starts) {
		t.Errorf("P7.3: Meet(%v, %v): %d, %d, %v: %d alike, %d epochs", epochsOf(leader), epochsOf(l), kept, times, err, alike, len(starts))
	}
	if times > s.most {
		s.most = times
	}
	if times == len(starts) && times > 2 {
		s.all++
	}
	if kept < len(leader) && kept < len(l) {
		s.parted = true
	}
}

// look asks of each two logs of a life.
func (s *seen) look(t *testing.T, f life) {
	t.Helper()
	for i, leader := range f.logs {
		for j, l := range f.logs {
			if i != j {
				s.holds(t, leader, l)
			}
		}
	}
}

// step does the choice of that number, and tells whether there is one, and whether it changed something.
func (f *life) step(choice int) (there, done bool) {
	n := len(f.logs)
	switch who := choice % n; choice / n {
	case 0:
		return true, f.elect(who)
	case 1:
		return true, f.write(who)
	case 2:
		return true, f.lose(who, 1)
	case 3, 4:
		return choice/n < n+2, f.copy(who, (who+choice/n-2)%n, 2)
	}
	return false, false
}

// lives goes through all lives of so many steps from here on.
func (s *seen) lives(t *testing.T, f life, steps int) {
	s.look(t, f)
	if steps == 0 || t.Failed() {
		return
	}
	for choice := 0; ; choice++ {
		next := f.another()
		there, done := next.step(choice)
		if !there {
			return
		}
		if done {
			s.lives(t, next, steps-1)
		}
	}
}

func TestP7_3_AllShortLivesOfCopiedLogs(t *testing.T) {
	var two, three seen
	two.lives(t, begun(2), 8)
	three.lives(t, begun(3), 6)
	if !two.parted || two.most < 2 || !three.parted {
		t.Error(two, three)
	}
}

func TestP7_3_LongLivesOfCopiedLogs(t *testing.T) {
	var s seen
	for seed := range 60 {
		d := dice(seed)
		f := begun(2 + d.pick(3))
		for range 600 {
			n := len(f.logs)
			switch who := d.pick(n); d.pick(8) {
			case 0:
				f.elect(who)
			case 1, 2, 3, 4:
				f.write(who)
			case 5:
				f.lose(who, 1+d.pick(3))
			default:
				f.copy(who, d.pick(n), 1+d.pick(4))
			}
			s.look(t, f)
		}
	}
	if !s.parted || s.most < 4 || s.all == 0 {
		t.Error("too little was tried:", s)
	}
}

// TestP7_3_TwoThatLeadByTurns: each had an epoch that the other one never learned of, so that it comes nearer once for each of its epochs.
func TestP7_3_TwoThatLeadByTurns(t *testing.T) {
	f := begun(2)
	f.elect(0)
	f.write(0)
	f.copy(1, 0, 1)
	for range 1000 {
		for who := range 2 {
			f.elect(who)
			f.write(who)
			f.write(who)
		}
	}
	var s seen
	s.look(t, f)
	wantMeet(t, f.logs[0], f.logs[1], 1, 1000)
	wantMeet(t, f.logs[1], f.logs[0], 1, 1000)
}

// TestP7_3_ToComeNearerMakesALogShorter goes the steps of meeting one by one, of logs that nobody copied too.
func TestP7_3_ToComeNearerMakesALogShorter(t *testing.T) {
	all := mays(shortLogs(5, 1, 4))
	for _, leader := range all {
		for _, l := range all {
			kept, times, _ := Meet(leader, l)
			if times > len(l)-kept || (times == 0) != (kept == len(l)) {
				t.Errorf("Meet(%v, %v): %d, %d", epochsOf(leader), epochsOf(l), kept, times)
			}
			for now := l; times > 0; times-- {
				next := plainNearer(leader, now)
				if k, n, _ := Meet(leader, next); len(next) >= len(now) || k != kept || n != times-1 {
					t.Errorf("Meet(%v, %v): %d, %d: from %d to %d", epochsOf(leader), epochsOf(next), k, n, len(now), len(next))
				}
				now = next
			}
			if fit, _ := Fits(leader, kept, plainLast(l[:kept])); !fit {
				t.Errorf("Meet(%v, %v): %d does not fit", epochsOf(leader), epochsOf(l), kept)
			}
		}
	}
}
