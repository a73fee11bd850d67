package replica

import (
	"cmp"
	"slices"

	"waystation/api"
)

// unknown is what is known of a broker that nothing is known of.
const unknown = -1

// lead is what only a replica that leads has; of another one it is zero.
type lead struct {
	version     int64
	isr, counts []int
	known       [api.MaxBrokers]int // its own stays unknown: that is told by how much it has flushed
	begin       int
}

// newLead is that of one that begins to lead with so many entries.
func newLead(v api.View, begin int) lead {
	l := lead{begin: begin}
	for broker := range l.known {
		l.known[broker] = unknown
	}
	l.alter(v)
	return l
}

// alter lets those that a view has in step be so, and them alone count.
func (l *lead) alter(v api.View) {
	l.version = v.Version
	l.isr = slices.Clone(v.ISR)
	l.counts = slices.Clone(v.ISR)
}

// note lets a broker be known to have so many entries that last.
func (l *lead) note(broker, lasts int) {
	l.known[broker] = max(l.known[broker], lasts)
}

// near tells whether a broker may count, of a leader that has committed so many entries.
func (l *lead) near(broker, high int) bool {
	return slices.Contains(l.isr, broker) || l.known[broker] >= max(high, l.begin)
}

// join lets others count too.
func (l *lead) join(brokers []int) { l.counts = joined(l.counts, brokers) }

// inAll is how many entries last of all that count, of a leader that has flushed so many of its own.
func (l *lead) inAll(self, flushed int) int {
	lasts := l.known
	lasts[self] = flushed
	// Somebody always counts.
	least := lasts[l.counts[0]]
	for _, broker := range l.counts {
		least = min(least, lasts[broker])
	}
	return least
}

// tell adds it to how a replica stands.
func (l *lead) tell(s *api.Standing) {
	s.Version, s.Begin = l.version, l.begin
	s.ISR, s.Counts, s.Known = slices.Clone(l.isr), slices.Clone(l.counts), slices.Clone(l.known[:])
}

// copied is the same in memory of its own.
func (l lead) copied() lead {
	l.isr, l.counts = slices.Clone(l.isr), slices.Clone(l.counts)
	return l
}

// like tells whether two are the same.
func (l *lead) like(other *lead) bool {
	return l.version == other.version && l.begin == other.begin && l.known == other.known &&
		slices.Equal(l.isr, other.isr) && slices.Equal(l.counts, other.counts)
}

// joined is what is in one of two lists, or in both, rising, each once.
func joined[T cmp.Ordered](a, b []T) []T {
	all := slices.Concat(a, b)
	slices.Sort(all)
	return slices.Compact(all)
}
