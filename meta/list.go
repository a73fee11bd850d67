package meta

import (
	"cmp"
	"slices"
)

// alike tells whether each thing of a list is like the one at its place in the other.
func alike[T interface{ like(T) bool }](a, b []T) bool { return slices.EqualFunc(a, b, T.like) }

// copied is the same list in memory of its own.
func copied[T any](l []T) []T { return append([]T(nil), l...) }

// with is a rising list that has a thing too, in its place.
func with[T cmp.Ordered](l []T, x T) []T {
	at, there := slices.BinarySearch(l, x)
	if there {
		return l
	}
	return slices.Insert(l, at, x)
}

// without is a list that has a thing no more.
func without[T comparable](l []T, x T) []T {
	return slices.DeleteFunc(l, func(y T) bool { return y == x })
}
