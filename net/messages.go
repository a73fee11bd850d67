package net

import (
	"iter"
	"maps"
	"slices"

	"waystation/api"
)

// places is how many places there are, maxBytes the most bytes of a message.
const (
	places   = 64
	maxBytes = 4096
)

// count is how many numbers were given; it goes on where messages leave, so that no number is given twice.
type count struct{ came int }

// give is the next number.
func (c *count) give() int {
	c.came++
	return c.came - 1
}

// messages are those on their way, by their numbers. Their bytes are never changed, and never handed out: a copy is.
type messages map[int]api.Parcel

// numbers are those of all messages, rising.
func (l messages) numbers() []int { return slices.Sorted(maps.Keys(l)) }

// inOrder tells the messages by their numbers, rising.
func (l messages) inOrder() iter.Seq2[int, api.Parcel] {
	return func(yield func(int, api.Parcel) bool) {
		for _, number := range l.numbers() {
			if !yield(number, l[number]) {
				return
			}
		}
	}
}

// isPlace tells whether a message may come from there, and go there.
func isPlace(p int) bool { return 0 <= p && p < places }

// another is a message like m, with bytes of its own.
func another(m api.Parcel) api.Parcel {
	m.Bytes = copied(m.Bytes)
	return m
}

// copied is the same list in memory of its own.
func copied[T any](l []T) []T { return append([]T(nil), l...) }

// alike tells whether two messages have the same places and bytes.
func alike(a, b api.Parcel) bool {
	return a.From == b.From && a.To == b.To && slices.Equal(a.Bytes, b.Bytes)
}
