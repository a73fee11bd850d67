package cluster

import (
	"fmt"
	"slices"
	"testing"

	"waystation/api"
)

// watch is a cluster, and what was committed and visible of it.
type watch struct {
	c                  *Cluster
	committed, visible [api.MaxParts][]api.Entry
}

// isBeginning tells whether a log begins with another.
func isBeginning(a, of []api.Entry) bool { return len(a) <= len(of) && slices.Equal(a, of[:len(a)]) }

// wrong tells what of P12.4 does not hold.
func (w *watch) wrong() string {
	f := w.c.Meta().Form()
	for part := range f.Parts {
		l, _ := w.c.Committed(part)
		s, _ := w.c.Visible(part)
		switch {
		case !isBeginning(w.committed[part], l):
			return fmt.Sprintf("of partition %d %v was committed, then %v", part, w.committed[part], l)
		case !isBeginning(w.visible[part], s):
			return fmt.Sprintf("of partition %d %v was visible, then %v", part, w.visible[part], s)
		}
		w.committed[part], w.visible[part] = l, s
		if why := w.wrongIn(part, f.Brokers); why != "" {
			return why
		}
	}
	return ""
}

// wrongIn tells what does not hold of a partition's replicas.
func (w *watch) wrongIn(part, brokers int) string {
	v, _ := w.c.Meta().View(part)
	for broker := range brokers {
		r, _ := w.c.Replica(part, broker)
		l, s := r.Log(), r.Standing()
		switch {
		case !isBeginning(l[:s.High], w.committed[part]):
			return fmt.Sprintf("partition %d, broker %d: %s, committed is %v", part, broker, standing(r), w.committed[part])
		case slices.Contains(v.ISR, broker) && !isBeginning(w.committed[part], l[:s.Flushed]):
			return fmt.Sprintf("partition %d, broker %d is in step: %s, committed is %v", part, broker, standing(r), w.committed[part])
		}
	}
	return ""
}

// TestP12_4_CommittedStays: messages are late, doubled and lost, brokers crash and are fenced, leaders follow one behind the other.
func TestP12_4_CommittedStays(t *testing.T) { stays(t, chosenAlone) }

// TestP12_4_CommittedStaysWithData: the same beside clients, whose data are put.
func TestP12_4_CommittedStaysWithData(t *testing.T) { stays(t, withData) }

func stays(t *testing.T, how manner) {
	t.Parallel()
	entries, shown, leaders, grown := 0, 0, int64(0), 0
	for seed := range 200 {
		p := dice(seed)
		f := formOf(1+seed%4, 1+p.pick(2), 1+p.pick(4))
		w := &watch{c: clusterOf(t, f, 1+p.pick(min(2, f.Brokers)))}
		var deeds []string
		for range 900 {
			d := p.any(w.c, how)
			was, _ := w.c.Meta().View(0)
			d.do(w.c)
			if v, _ := w.c.Meta().View(0); len(v.ISR) > len(was.ISR) {
				grown++
			}
			deeds = append(deeds, d.text)
			if why := w.wrong(); why != "" {
				t.Fatalf("seed %d, %v: %s", seed, deeds[max(0, len(deeds)-40):], why)
			}
		}
		v, _ := w.c.Meta().View(0)
		leaders += v.Epoch
		entries += len(w.committed[0])
		shown += len(w.visible[0])
	}
	if entries < 1000 || shown < 500 || leaders < 500 || grown < 50 {
		t.Errorf("only %d entries were committed, %d visible, behind %d elections; in step came %d", entries, shown, leaders, grown)
	}
}
