package disk

import (
	"iter"
	"strings"
)

// deed is what is done to a file.
type deed int

const (
	put deed = iota + 1
	cut
	remove
)

// told is what a thing is told by, as functions can't be compared. What its deed does not need is zero.
type told struct {
	deed  deed
	name  string
	bytes string
	size  int
}

// thing is something done to files: to those that stand at once, to those that last by a flush or a crash.
type thing struct {
	told
	do func(*files)
}

// putting is the thing that puts bytes behind a file's. The name is copied, here and below: it may be a piece of a long text, which must not be kept.
func putting(name, b string) thing {
	name = strings.Clone(name)
	return thing{told{deed: put, name: name, bytes: b}, func(f *files) { f.put(name, b) }}
}

// cutting is the thing that leaves a file's first n bytes.
func cutting(name string, n int) thing {
	name = strings.Clone(name)
	return thing{told{deed: cut, name: name, size: n}, func(f *files) { f.cut(name, n) }}
}

// removing is the thing that takes a file away.
func removing(name string) thing {
	name = strings.Clone(name)
	return thing{told{deed: remove, name: name}, func(f *files) { f.remove(name) }}
}

// same tells whether both do the same.
func (t thing) same(other thing) bool { return t.told == other.told }

// tears tells whether a pick leaves some of the bytes that the thing puts.
func (t thing) tears(pick int) bool { return picked(pick, len(t.bytes)) > 0 }

// torn is the thing with as many of its bytes as a pick leaves.
func (t thing) torn(pick int) thing {
	return putting(t.name, t.bytes[:picked(pick, len(t.bytes))])
}

// inTurn tells what waits, one thing behind the other, each with its number from 0 on.
func (d *Disk) inTurn() iter.Seq2[int, thing] {
	return func(yield func(int, thing) bool) {
		for i, t := range d.waiting {
			if !yield(i, t) {
				return
			}
		}
	}
}

// picked is which of 0 to most a pick picks, also one below 0.
func picked(pick, most int) int {
	n := most + 1
	return (pick%n + n) % n
}
