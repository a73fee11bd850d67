package disk

import (
	"bytes"
	"maps"
	"slices"

	"waystation/api"
)

// maxName is the most bytes that a name has.
const maxName = 24

// files are bytes by names, and how many they are in all: summed up anew at each put, many files would make it slow.
type files struct {
	byName map[string][]byte
	used   int
}

func noFiles() files { return files{byName: map[string][]byte{}} }

// isName tells whether a file may be called so.
func isName(s string) bool {
	for i := range len(s) {
		c := s[i]
		if c != '.' && (c < '0' || c > '9') && (c < 'a' || c > 'z') {
			return false
		}
	}
	return 0 < len(s) && len(s) <= maxName
}

// missing is why there is no file of that name, or OK.
func (f *files) missing(name string) api.Errno {
	if !isName(name) {
		return api.ErrName
	}
	if _, there := f.byName[name]; !there {
		return api.ErrNone
	}
	return api.OK
}

// read is a copy of a file's bytes.
func (f *files) read(name string) ([]byte, api.Errno) {
	if err := f.missing(name); err != api.OK {
		return nil, err
	}
	return bytes.Clone(f.byName[name]), api.OK
}

// names are those of all files, in order.
func (f *files) names() []string { return slices.Sorted(maps.Keys(f.byName)) }

// size is how many bytes a file has.
func (f *files) size(name string) int { return len(f.byName[name]) }

// put puts bytes behind a file's.
func (f *files) put(name, b string) {
	f.byName[name] = append(f.byName[name], b...)
	f.used += len(b)
}

// cut leaves a file's first n bytes.
func (f *files) cut(name string, n int) {
	f.used -= f.size(name) - n
	f.byName[name] = shortened(f.byName[name], n)
}

// remove takes a file away.
func (f *files) remove(name string) {
	f.used -= f.size(name)
	delete(f.byName, name)
}

// copied are the same files in memory of their own.
func (f *files) copied() files {
	c := files{byName: make(map[string][]byte, len(f.byName)), used: f.used}
	for name, b := range f.byName {
		c.byName[name] = bytes.Clone(b)
	}
	return c
}

// shortened are the first n bytes, moved where they would hold on to much more memory than they need.
func shortened(b []byte, n int) []byte {
	if n < cap(b)/2 {
		return append([]byte(nil), b[:n]...)
	}
	return b[:n]
}

// sameFiles tells whether the same files are in both.
func sameFiles(f, g files) bool {
	return alike(f.names(), g.names(), func(x, y string) bool {
		return x == y && bytes.Equal(f.byName[x], g.byName[y])
	})
}

// alike tells whether two lists are, one by one, what same asks.
func alike[T any](a, b []T, same func(x, y T) bool) bool {
	if len(a) != len(b) {
		return false
	}
	for i, x := range a {
		if !same(x, b[i]) {
			return false
		}
	}
	return true
}
