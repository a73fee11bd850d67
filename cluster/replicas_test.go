package cluster

import (
	"math"
	"testing"

	"waystation/api"
)

// TestP12_1_Fetch: what a replica that follows asks is put, to whomever.
func TestP12_1_Fetch(t *testing.T) {
	c := clusterOf(t, formOf(3, 2, 1), 1)
	stepsRefused(t, c, api.ErrLead, fetch(1, 0, 1), fetch(1, 0, 0))
	steps(t, c, elect(1, 0), tell(1, 0), deliver(0), tell(1, 1), deliver(0))
	stepsRefused(t, c, api.ErrLead, fetch(1, 0, 1), fetch(1, 2, 0), fetch(0, 1, 0))
	steps(t, c, fetch(1, 1, 0), fetch(1, 1, 2), fetch(1, 1, 1))
	first := asks(1, 1, 0, 0, 0)
	wantBag(t, c, fetchTo(0, 1, first), fetchTo(2, 1, first), fetchTo(1, 1, first))
	// Itself is nobody to fetch from; who does not lead serves nobody.
	stepsAnswered(t, c, api.ErrArg, deliver(2))
	stepsAnswered(t, c, api.ErrLead, deliver(1))
	steps(t, c, drop(0), write(1, 0, 4), write(1, 0, 5), fetch(1, 1, 0), deliver(0), deliver(0), flush(1, 1), write(1, 0, 6))
	steps(t, c, fetch(1, 1, 0), deliver(0), deliver(0), fetch(1, 1, 0))
	wantBag(t, c, fetchTo(0, 1, asks(1, 1, 3, 1, 2)))
	steps(t, c, crash(1, 0))
	stepsRefused(t, c, api.ErrLead, fetch(1, 1, 0))
}

// TestP12_1_Flush: the replica of that partition at that broker, and no other one.
func TestP12_1_Flush(t *testing.T) {
	c := led(t, formOf(2, 2, 1), 1)
	steps(t, c, write(0, 0, 1), write(1, 0, 2))
	for part := range 2 {
		steps(t, c, fetch(part, 1, 0), deliver(0), deliver(0))
	}
	steps(t, c, flush(1, 1))
	wantLog(t, c, 0, 0, 0, 0, in(1, nobodys(1))...)
	wantLog(t, c, 1, 0, 0, 0, in(1, nobodys(2))...)
	wantLog(t, c, 0, 1, 0, 0, in(1, nobodys(1))...)
	wantLog(t, c, 1, 1, 1, 0, in(1, nobodys(2))...)
	steps(t, c, flush(0, 0), flush(0, 0))
	wantLog(t, c, 0, 0, 1, 0, in(1, nobodys(1))...)
	wantLog(t, c, 1, 0, 0, 0, in(1, nobodys(2))...)
	// It counts, where it leads alone.
	steps(t, c, fence(1), tell(1, 0), deliver(0), flush(1, 0))
	wantLog(t, c, 1, 0, 1, 1, in(1, nobodys(2))...)
	wantBag(t, c)
}

// TestP12_1_Write: data of nobody are the leader's last entry.
func TestP12_1_Write(t *testing.T) {
	c := led(t, formOf(2, 2, 1), 1)
	stepsRefused(t, c, api.ErrLead, write(0, 1, 1))
	steps(t, c, write(1, 0, math.MaxInt32), write(1, 0, math.MinInt32), write(1, 0, 0))
	wantLog(t, c, 1, 0, 0, 0, in(1, nobodys(math.MaxInt32), nobodys(math.MinInt32), nobodys(0))...)
	wantLog(t, c, 0, 0, 0, 0)
	wantLog(t, c, 1, 1, 0, 0)
	stepsRefused(t, c, api.ErrArg, write(1, 0, math.MaxInt32+1), write(1, 0, math.MinInt32-1), write(1, 0, math.MaxInt), write(1, 0, math.MinInt))
	steps(t, c, crash(0, 0))
	stepsRefused(t, c, api.ErrLead, write(1, 0, 1))
}

// TestP12_1_WriteLong: a log has at most MaxLog entries.
func TestP12_1_WriteLong(t *testing.T) {
	c := led(t, formOf(1, 1, 1), 1)
	for n := range api.MaxLog {
		if err := c.Step(write(0, 0, n)); err != api.OK {
			t.Fatalf("%d: %v", n, err)
		}
	}
	steps(t, c, flush(0, 0))
	stepsAnswered(t, c, api.ErrLong, write(0, 0, 1))
	if l, err := c.Committed(0); len(l) != api.MaxLog || err != api.OK || l[4095].Value != 4095 {
		t.Errorf("%d entries, %v", len(l), err)
	}
}

// TestP12_1_Propose: the list that is there, one with who is near enough, one with who is not.
func TestP12_1_Propose(t *testing.T) {
	c := led(t, formOf(3, 2, 1), 1)
	steps(t, c, fence(2), register(2), tell(1, 0), deliver(0), write(1, 0, 1), flush(1, 0))
	stepsRefused(t, c, api.ErrLead, propose(1, 1, 0b010), propose(1, 2, 0b111))
	stepsRefused(t, c, api.ErrArg, propose(1, 0, 0), propose(1, 0, 0b110), propose(1, 1, 0b001))
	stepsRefused(t, c, api.ErrBehind, propose(1, 0, 0b101), propose(1, 0, 0b111))
	// Of the other partition the leader has not heard yet.
	steps(t, c, propose(1, 0, 0b011), propose(1, 0, 0b001), propose(0, 0, 0b111))
	first, second := alterOf(1, 0, 1, 2, 0, 1), alterOf(1, 0, 1, 2, 0)
	wantBag(t, c, first, second, alterOf(0, 0, 1, 1, 0, 1, 2))
	stepsAnswered(t, c, api.ErrStale, deliver(2))
	steps(t, c, drop(0), drop(0))
	// What it has is known to the leader as it fetches the second time.
	steps(t, c, fetch(1, 1, 0), deliver(0), deliver(0), flush(1, 1), fetch(1, 1, 0), deliver(0), drop(0))
	wantLog(t, c, 1, 0, 1, 1, in(1, nobodys(1))...)
	stepsRefused(t, c, api.ErrBehind, propose(1, 0, 0b111))
	passes(t, c, 1, 0, 2)
	steps(t, c, propose(1, 0, 0b111))
	wantBag(t, c, alterOf(1, 0, 1, 2, 0, 1, 2))
	r, _ := c.Replica(1, 0)
	if s := r.Standing(); len(s.Counts) != 3 || len(s.ISR) != 2 {
		t.Errorf("%s", standing(r))
	}
	steps(t, c, deliver(0))
	wantView(t, c, 1, view(0, 1, 3, 0, 1, 2))
	wantView(t, c, 0, view(0, 1, 2, 0, 1))
}

// TestP12_1_Report: of each ID the last marker that is committed, of who leads.
func TestP12_1_Report(t *testing.T) {
	c := led(t, formOf(2, 2, 4), 1)
	stepsRefused(t, c, api.ErrLead, report(0, 1), report(1, 1))
	steps(t, c, report(1, 0))
	wantBag(t, c)
	appends(t, c, 1, 0, data(2, 1, 0), nobodys(5), commits(2, 1), data(2, 2, 0), data(0, 7, 0), aborts(0, 7))
	steps(t, c, report(0, 0))
	wantBag(t, c)
	steps(t, c, report(1, 0))
	wantBag(t, c, markedOf(1, 0, 7), markedOf(1, 2, 1))
	steps(t, c, drop(0), drop(0))
	// Markers that are not committed yet are not told.
	does(t, c, put(markTo(0, 1, aborts(2, 2))), step(deliver(0)), put(markTo(0, 1, commits(3, 9))), step(deliver(0)), step(flush(1, 0)), step(report(1, 0)))
	wantBag(t, c, markedOf(1, 0, 7), markedOf(1, 2, 1))
	steps(t, c, drop(0), drop(0))
	appends(t, c, 1, 0, commits(0, 8), commits(0, api.MaxNumber))
	steps(t, c, report(1, 0))
	wantBag(t, c, markedOf(1, 0, api.MaxNumber), markedOf(1, 2, 2), markedOf(1, 3, 9))
	// Who follows has them too, and tells nothing.
	steps(t, c, fetch(1, 1, 0), deliver(-1), deliver(-1))
	wantLog(t, c, 1, 1, 10, 10, in(1, data(2, 1, 0), nobodys(5), commits(2, 1), data(2, 2, 0), data(0, 7, 0), aborts(0, 7), aborts(2, 2), commits(3, 9), commits(0, 8), commits(0, api.MaxNumber))...)
	stepsRefused(t, c, api.ErrLead, report(1, 1))
	steps(t, c, crash(0, 0))
	stepsRefused(t, c, api.ErrLead, report(1, 0))
}

// TestP12_1_ReportBeyondTheForm: an ID that the form has not may have written, as replicas know all; the controller refuses it.
func TestP12_1_ReportBeyondTheForm(t *testing.T) {
	c := led(t, formOf(1, 1, 1), 1)
	appends(t, c, 0, 0, commits(3, 4))
	steps(t, c, report(0, 0))
	wantBag(t, c, markedOf(0, 3, 4))
	stepsAnswered(t, c, api.ErrArg, deliver(0))
}

// TestP12_1_Crash: all replicas at the broker, and none elsewhere; what is kept is counted in each of them.
func TestP12_1_Crash(t *testing.T) {
	before := led(t, formOf(3, 3, 1), 1)
	// Of each partition broker 0 has flushed one entry, and has as many more as the partition's number, and one; broker 1 has two of them.
	for part := range 3 {
		steps(t, before, write(part, 0, 10), flush(part, 0), write(part, 0, 11), fetch(part, 1, 0), deliver(0), deliver(0))
		for range part {
			steps(t, before, write(part, 0, 12))
		}
	}
	l := in(1, nobodys(10), nobodys(11), nobodys(12), nobodys(12))
	for _, row := range []struct{ keep, kept0, kept1, kept2 int }{{0, 1, 1, 1}, {1, 2, 2, 2}, {2, 2, 3, 3}, {3, 2, 3, 4}, {4, 2, 3, 4}, {math.MaxInt, 2, 3, 4}} {
		c := before.Copy()
		steps(t, c, crash(0, row.keep))
		for part, kept := range []int{row.kept0, row.kept1, row.kept2} {
			wantLog(t, c, part, 0, kept, 0, l[:kept]...)
			wantLog(t, c, part, 1, 0, 0, l[:2]...)
			wantLog(t, c, part, 2, 0, 0)
			wantView(t, c, part, view(0, 1, 1, 0, 1, 2))
		}
		stepsRefused(t, c, api.ErrLead, write(0, 0, 1), write(1, 0, 1), write(2, 0, 1), fetch(2, 0, 1))
		steps(t, c, fetch(0, 1, 0))
		// Whoever crashed leads in no epoch that it knew.
		steps(t, c, tell(0, 0))
		stepsAnswered(t, c, api.ErrOld, deliver(-1))
		c = before.Copy()
		steps(t, c, crash(1, row.keep), crash(2, row.keep))
		for part := range 3 {
			wantLog(t, c, part, 1, min(row.keep, 2), 0, l[:min(row.keep, 2)]...)
			wantLog(t, c, part, 0, 1, 0, l[:2+part]...)
		}
		steps(t, c, write(0, 0, 1))
		wantBag(t, c)
	}
}

// TestP12_1_CrashOfAll: of each partition, whether there are more brokers or more partitions.
func TestP12_1_CrashOfAll(t *testing.T) {
	for _, f := range []api.Form{formOf(1, 4, 1), formOf(4, 1, 1), formOf(2, 3, 1), formOf(4, 4, 1)} {
		c := led(t, f, 1)
		for broker := range f.Brokers {
			steps(t, c, crash(broker, 0))
			for part := range f.Parts {
				for other := range f.Brokers {
					if (roleOf(c, part, other) == api.RoleNone) != (other <= broker) {
						t.Errorf("broker %d crashed: %s", broker, told(c))
					}
				}
			}
		}
	}
}

// TestP12_1_LeadersOneBehindTheOther: what was not committed, and that the next leader has not, is cut.
func TestP12_1_LeadersOneBehindTheOther(t *testing.T) {
	c := led(t, formOf(3, 1, 1), 1)
	appends(t, c, 0, 0, nobodys(1))
	steps(t, c, write(0, 0, 2), write(0, 0, 3), flush(0, 0), fence(0), elect(0, 1), tell(0, 1), deliver(0), tell(0, 2), deliver(0))
	// It leads still, as far as it knows, but nobody serves it any more.
	steps(t, c, write(0, 0, 4), fetch(0, 2, 0))
	stepsAnswered(t, c, api.ErrOld, deliver(0))
	steps(t, c, write(0, 1, 5), flush(0, 1))
	passes(t, c, 0, 1, 2)
	answers(t, c, append(in(1, nobodys(1)), in(3, nobodys(5))...), committed(0))
	steps(t, c, register(0), tell(0, 0), deliver(0), fetch(0, 0, 1), deliver(0))
	wantBag(t, c, replyTo(0, 0, api.Reply{Epoch: 3, Base: 4, Last: 1, Cut: true, CutEpoch: 1, CutEnd: 1, High: 2}))
	steps(t, c, deliver(0))
	wantLog(t, c, 0, 0, 1, 1, in(1, nobodys(1))...)
	passes(t, c, 0, 1, 0)
	wantLog(t, c, 0, 0, 2, 2, append(in(1, nobodys(1)), in(3, nobodys(5))...)...)
	steps(t, c, propose(0, 1, 0b111), deliver(0))
	wantView(t, c, 0, view(1, 3, 4, 0, 1, 2))
}
