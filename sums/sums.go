// Package sums is layer 1: see shared/doc/01-sums.md.
package sums

import (
	"bytes"
	"iter"

	"waystation/api"
)

// polynomial is that of CRC-32C; its bits are mirrored, because words lose their lowest bit first.
const polynomial uint32 = 0x82f63b78

// sumBytes is how many bytes a sum has behind sealed bytes.
const sumBytes = 4

// Sum: P1.1.
func Sum(b []byte) uint32 { return More(0, b) }

// More: P1.1.
func More(sum uint32, b []byte) uint32 {
	r := begin(sum)
	r.add(b)
	return r.told()
}

// Seal: P1.2.
func Seal(b []byte) []byte {
	// Made at its full length at once: appending to b itself might write into the caller's spare room.
	sealed := make([]byte, 0, len(b)+sumBytes)
	sealed = append(sealed, b...)
	return appendLowAhead(sealed, Sum(b))
}

// Open: P1.2.
func Open(b []byte) ([]byte, api.Errno) {
	if len(b) < sumBytes {
		return nil, api.ErrSum
	}
	body, tail := b[:len(b)-sumBytes], b[len(b)-sumBytes:]
	if !bytes.Equal(tail, appendLowAhead(nil, Sum(body))) {
		return nil, api.ErrSum
	}
	return bytes.Clone(body), api.OK
}

// Of: P1.1.
func Of(parts iter.Seq[[]byte]) (sum uint32) {
	if parts == nil {
		return 0
	}
	r := begin(0)
	// No listed call panics at any argument: where the iterator does, the parts are those that it told till then.
	defer func() {
		if recover() != nil {
			sum = r.told()
		}
	}()
	for part := range parts {
		r.add(part)
	}
	return r.told()
}

// running is a sum that bytes are added to; its bits stay unturned until it is told, so that it can go on.
type running struct {
	word  uint32
	table [256]uint32
}

// begin goes on from a sum that was told.
func begin(sum uint32) *running {
	return &running{word: ^sum, table: byteTable()}
}

func (r *running) add(b []byte) {
	word := r.word
	for _, x := range b {
		// The upper three bytes only go down: just the lowest one decides which polynomials are joined.
		word = word>>8 ^ r.table[byte(word)^x]
	}
	r.word = word
}

func (r *running) told() uint32 { return ^r.word }

// byteTable is worked out anew for each sum: it is too long for a table at package level.
func byteTable() [256]uint32 {
	made := func(word uint32) uint32 {
		for range 8 {
			// The mask is all ones where the lowest bit is 1: a branch here would be guessed wrong half the time.
			word = word>>1 ^ polynomial&-(word&1)
		}
		return word
	}
	var table [256]uint32
	for b := range table {
		table[b] = made(uint32(b))
	}
	return table
}

// appendLowAhead appends the four lowest bytes of n, the lowest ahead.
func appendLowAhead[N ~uint32 | ~uint64](b []byte, n N) []byte {
	for range sumBytes {
		b = append(b, byte(n))
		n >>= 8
	}
	return b
}
