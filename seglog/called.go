package seglog

import "strings"

// maxName is the most bytes that a log's name has, maxPer the most entries of a segment.
const (
	maxName = 8
	maxPer  = 256
)

// called is what a log is called, and how many entries a segment of it has: all that its files' names hang on.
type called struct {
	name string
	per  int
}

// digits are those behind the dot of a file's name.
type digits [6]byte

// isName tells whether a log may be called so.
func isName(s string) bool {
	for i := range len(s) {
		if c := s[i]; !isDigit(c) && (c < 'a' || c > 'z') {
			return false
		}
	}
	return 0 < len(s) && len(s) <= maxName
}

func isDigit(c byte) bool { return '0' <= c && c <= '9' }

// digitsOf are those of a number.
func digitsOf(n int) digits {
	var d digits
	for i := len(d) - 1; i >= 0; i-- {
		d[i] = byte('0' + n%10)
		n /= 10
	}
	return d
}

// number is what the digits tell.
func (d digits) number() int {
	n := 0
	for _, c := range d {
		n = n*10 + int(c-'0')
	}
	return n
}

// finder is a closure that finds the segment of an entry: the number of its first one, and its file.
func (c called) finder() func(i int) (first int, file string) {
	return func(i int) (int, string) {
		first := i - i%c.per
		d := digitsOf(first)
		return first, c.name + "." + string(d[:])
	}
}

// digitsIn are those of a file's name, if it is one of the log.
func (c called) digitsIn(file string) (d digits, ours bool) {
	rest, ours := strings.CutPrefix(file, c.name+".")
	if !ours || len(rest) != len(d) {
		return digits{}, false
	}
	for i := range d {
		if !isDigit(rest[i]) {
			return digits{}, false
		}
		d[i] = rest[i]
	}
	return d, true
}

// owns tells whether a file is one of the log, whatever its digits.
func (c called) owns(file string) bool {
	_, ours := c.digitsIn(file)
	return ours
}

// holds tells whether a file of the log is that of a segment that has some of so many entries.
func (c called) holds(file string, entries int) bool {
	d, _ := c.digitsIn(file)
	n := d.number()
	return n < entries && n%c.per == 0
}
