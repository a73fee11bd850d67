package visible

import "waystation/api"

// transaction is an ID and a Num.
type transaction [2]int64

// nobodys is what entries that are nobody's have in place of a transaction.
var nobodys = transaction{-1, 0}

// whose is the transaction of an entry.
func whose(e api.Entry) transaction { return transaction{int64(e.ID), e.Num} }

// set is things, each with the offset at which it came first: so it also tells what was in it of fewer entries.
type set[T comparable] map[T]int

// add lets a thing come at an offset.
func (s set[T]) add(x T, at int) {
	if _, there := s[x]; !there {
		s[x] = at
	}
}

// has tells whether a thing came among the first n entries.
func (s set[T]) has(x T, n int) bool {
	at, there := s[x]
	return there && at < n
}
