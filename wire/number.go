package wire

import "waystation/api"

const (
	// bitsAByte of a number stand in each of its bytes; goesOn is added where another byte follows.
	bitsAByte = 7
	goesOn    = 1 << bitsAByte

	// numberBytes hold 63 bits: each number that they tell is an int64.
	numberBytes = 9
)

// appendNumber appends the bytes of a number that is not below 0.
func appendNumber[N ~int | ~int64](b []byte, n N) []byte {
	for n >= goesOn {
		b = append(b, byte(n)|goesOn)
		n >>= bitsAByte
	}
	return append(b, byte(n))
}

// folded is a number with a sign as one without, so that small ones stay short on both sides of 0.
func folded(n int64) int64 {
	if n < 0 {
		// One more ahead of doubling: twice the least n is too much.
		return -2*(n+1) + 1
	}
	return 2 * n
}

// unfolded is the number with a sign that was folded to n.
func unfolded(n int64) int64 {
	if n%2 == 1 {
		// Halved ahead of adding: n + 1 is too much for the greatest n.
		return -(n / 2) - 1
	}
	return n / 2
}

// taker takes the bytes of b one by one, and gives up with end behind the last one; taken tells how many it took.
func taker(b []byte, end api.Errno) (next func() byte, taken func() int) {
	at := 0
	next = func() byte {
		if at == len(b) {
			panic(end)
		}
		at++
		return b[at-1]
	}
	return next, func() int { return at }
}

// leading is the number with which b begins, and how many bytes it has; or it gives up.
func leading(b []byte) (int64, int) {
	next, taken := taker(b, api.ErrShort)
	n := number(next)
	return n, taken()
}

// number takes a number's bytes, or gives up. It never asks for a tenth byte: nine that go on are none, whatever follows.
func number(next func() byte) int64 {
	var n int64
	for i := range numberBytes {
		x := next()
		n |= int64(x&^goesOn) << (bitsAByte * i)
		if x >= goesOn {
			continue
		}
		if x == 0 && i > 0 {
			panic(api.ErrBody) // one byte fewer tells the same
		}
		return n
	}
	panic(api.ErrBody)
}
