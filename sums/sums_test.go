package sums

import (
	"bytes"
	"hash/crc32"
	"iter"
	"slices"
	"testing"

	"waystation/api"
)

// plainSum is the document's rule, bit by bit, as a second way to the same sum.
func plainSum(b []byte) uint32 {
	word := uint32(1<<32 - 1)
	for _, x := range b {
		word ^= uint32(x)
		for i := 0; i < 8; i++ {
			low := word % 2
			word /= 2
			if low == 1 {
				word ^= 2197175160
			}
		}
	}
	return 1<<32 - 1 - word
}

// someBytes are n bytes that look mixed and are the same in each run.
func someBytes(n int, seed uint32) []byte {
	b := make([]byte, n)
	for i := range b {
		seed = seed*1664525 + 1013904223
		b[i] = byte(seed >> 24)
	}
	return b
}

// edgeInputs are bytes of many lengths and shapes.
func edgeInputs() [][]byte {
	list := [][]byte{nil, {}, []byte("hi"), []byte("123456789"), []byte("\xff\xfe no text \x00")}
	for x := 0; x < 256; x++ {
		list = append(list, []byte{byte(x)})
	}
	for n := 0; n <= 70; n++ {
		list = append(list, make([]byte, n), bytes.Repeat([]byte{0xff}, n), someBytes(n, uint32(n)))
	}
	return append(list, someBytes(1000, 1), someBytes(4096, 2), someBytes(100001, 3))
}

func TestP1_1_SumOfKnownBytes(t *testing.T) {
	rising, falling := make([]byte, 32), make([]byte, 32)
	for i := range rising {
		rising[i], falling[i] = byte(i), byte(31-i)
	}
	rows := []struct {
		of   []byte
		want uint32
	}{
		{nil, 0},
		{[]byte{}, 0},
		{[]byte("123456789"), 0xe3069283},
		{[]byte("a"), 0xc1d04330},
		{make([]byte, 32), 0x8a9136aa}, // this and the next three: RFC 3720, B.4
		{bytes.Repeat([]byte{0xff}, 32), 0x62a8ab43},
		{rising, 0x46dd794e},
		{falling, 0x113fdb5c},
	}
	for _, r := range rows {
		if got := Sum(r.of); got != r.want {
			t.Errorf("Sum(%x) = %#x, want %#x", r.of, got, r.want)
		}
	}
}

func TestP1_1_SumByTwoOtherWays(t *testing.T) {
	library := crc32.MakeTable(crc32.Castagnoli)
	for _, b := range edgeInputs() {
		got := Sum(b)
		if got != plainSum(b) || got != crc32.Checksum(b, library) {
			t.Errorf("Sum of %d bytes = %#x, want %#x", len(b), got, plainSum(b))
		}
	}
}

func TestP1_1_MoreGoesOn(t *testing.T) {
	if More(0, nil) != 0 || More(0, []byte{}) != 0 {
		t.Error("More of nothing behind nothing is not 0")
	}
	for _, sum := range []uint32{0, 1, 0x80000000, 0xe3069283, 1<<32 - 1} {
		if got := More(sum, nil); got != sum {
			t.Errorf("More(%#x, none) = %#x", sum, got)
		}
	}
	library := crc32.MakeTable(crc32.Castagnoli)
	for _, b := range edgeInputs() {
		if got := More(0, b); got != plainSum(b) {
			t.Errorf("More(0, %d bytes) = %#x, want %#x", len(b), got, plainSum(b))
		}
		// Each word is the sum of some bytes, so any may be told.
		for _, sum := range []uint32{1, 0x12345678, 1<<32 - 1} {
			if got, want := More(sum, b), crc32.Update(sum, library, b); got != want {
				t.Errorf("More(%#x, %d bytes) = %#x, want %#x", sum, len(b), got, want)
			}
		}
	}
}

func TestP1_1_OfNoIteratorAndNoParts(t *testing.T) {
	if got := Of(nil); got != 0 {
		t.Errorf("Of(no iterator) = %#x", got)
	}
	if got := Of(func(func([]byte) bool) {}); got != 0 {
		t.Errorf("Of(no parts) = %#x", got)
	}
	if got := Of(slices.Values([][]byte{nil, {}, nil})); got != 0 {
		t.Errorf("Of(parts without bytes) = %#x", got)
	}
}

func TestP1_1_OfIsTheSumOfAllParts(t *testing.T) {
	for _, b := range edgeInputs() {
		if got := Of(slices.Values([][]byte{b})); got != plainSum(b) {
			t.Errorf("Of one part of %d bytes = %#x, want %#x", len(b), got, plainSum(b))
		}
		if len(b) > 5000 {
			continue
		}
		for _, size := range []int{1, 2, 3, 7, 64} {
			if got := Of(slices.Chunk(b, size)); got != plainSum(b) {
				t.Errorf("Of %d bytes by %d = %#x, want %#x", len(b), size, got, plainSum(b))
			}
		}
	}
	gaps := [][]byte{nil, []byte("12"), {}, []byte("345"), nil, []byte("6789"), {}}
	if got := Of(slices.Values(gaps)); got != 0xe3069283 {
		t.Errorf("Of parts with empty ones between = %#x", got)
	}
	if Of(slices.Values([][]byte{[]byte("ab"), []byte("c")})) == Of(slices.Values([][]byte{[]byte("c"), []byte("ab")})) {
		t.Error("Of does not mind the order of parts")
	}
}

func TestP1_1_OfPartsThatShareMemory(t *testing.T) {
	room := make([]byte, 1)
	parts := func(yield func([]byte) bool) {
		for _, x := range []byte("123456789") {
			room[0] = x
			if !yield(room) {
				return
			}
		}
	}
	if got := Of(parts); got != 0xe3069283 {
		t.Errorf("Of parts in one room = %#x", got)
	}
}

func TestP1_1_OfDoesNotPanic(t *testing.T) {
	var broken iter.Seq[[]byte] = func(yield func([]byte) bool) {
		yield([]byte("12345"))
		yield([]byte("6789"))
		panic("no more parts")
	}
	if got := Of(broken); got != 0xe3069283 {
		t.Errorf("Of an iterator that panics = %#x", got)
	}
	if got := Of(func(func([]byte) bool) { panic(nil) }); got != 0 {
		t.Errorf("Of an iterator that panics at once = %#x", got)
	}
}

func TestP1_2_SealPutsTheSumBehind(t *testing.T) {
	if got := Seal(nil); !bytes.Equal(got, make([]byte, 4)) {
		t.Errorf("Seal(none) = %x", got)
	}
	want := append([]byte("123456789"), 0x83, 0x92, 0x06, 0xe3)
	if got := Seal([]byte("123456789")); !bytes.Equal(got, want) {
		t.Errorf("Seal = %x, want %x", got, want)
	}
	for _, b := range edgeInputs() {
		sum := plainSum(b)
		want := append(bytes.Clone(b), byte(sum), byte(sum>>8), byte(sum>>16), byte(sum>>24))
		if got := Seal(b); !bytes.Equal(got, want) {
			t.Errorf("Seal of %d bytes ends with %x, want %x", len(b), got[len(b):], want[len(b):])
		}
	}
}

func TestP1_2_OpenGivesBackWhatWasSealed(t *testing.T) {
	for _, b := range edgeInputs() {
		got, err := Open(Seal(b))
		if err != api.OK || !bytes.Equal(got, b) {
			t.Errorf("Open(Seal(%d bytes)) = %d bytes, %v", len(b), len(got), err)
		}
		twice, err := Open(Seal(Seal(b)))
		if err != api.OK || !bytes.Equal(twice, Seal(b)) {
			t.Errorf("Open(Seal(Seal(%d bytes))) = %d bytes, %v", len(b), len(twice), err)
		}
	}
}

func TestP1_2_OpenRefuses(t *testing.T) {
	if api.ErrSum != 110 {
		t.Errorf("ErrSum is %d", int(api.ErrSum))
	}
	sealed := Seal([]byte("123456789"))
	highAhead := append([]byte("123456789"), 0xe3, 0x06, 0x92, 0x83)
	sumAhead := append([]byte{0x83, 0x92, 0x06, 0xe3}, "123456789"...)
	bad := [][]byte{
		nil, {}, {0}, {0, 0}, {0, 0, 0}, []byte("abc"), // fewer than four
		{0, 0, 0, 1}, {1, 0, 0, 0}, []byte("abcd"), bytes.Repeat([]byte{0xff}, 4), // just four
		make([]byte, 5), highAhead, sumAhead, sealed[1:], sealed[:len(sealed)-1], append(bytes.Clone(sealed), 0),
	}
	for _, b := range bad {
		if got, err := Open(b); len(got) != 0 || err != api.ErrSum {
			t.Errorf("Open(%x) = %x, %v", b, got, err)
		}
	}
	if got, err := Open(make([]byte, 4)); len(got) != 0 || err != api.OK {
		t.Errorf("Open(four noughts) = %x, %v", got, err)
	}
}

// withRoom is b, with spare room behind it that shows whether it was written.
func withRoom(b []byte) (short, whole []byte) {
	whole = append(bytes.Clone(b), bytes.Repeat([]byte{0xa5}, 16)...)
	return whole[:len(b)], whole
}

func TestP1_2_WhatIsHandedInStays(t *testing.T) {
	for _, b := range [][]byte{nil, []byte("hi"), Seal(nil), Seal([]byte("hi")), someBytes(1000, 5)} {
		short, whole := withRoom(b)
		before := bytes.Clone(whole)
		Sum(short)
		More(7, short)
		Of(slices.Values([][]byte{short, short}))
		Seal(short)
		Open(short)
		if !bytes.Equal(whole, before) {
			t.Errorf("%x was changed", b)
		}
	}
}

func TestP1_2_AnswersAreNewMemory(t *testing.T) {
	in := []byte("hello")
	first, second := Seal(in), Seal(in)
	clear(first[:cap(first)])
	if string(in) != "hello" || !bytes.Equal(second, Seal(in)) {
		t.Error("Seal's answer shares memory")
	}
	one, _ := Open(second)
	two, _ := Open(second)
	clear(one[:cap(one)])
	if string(two) != "hello" || !bytes.Equal(second, Seal(in)) {
		t.Error("Open's answer shares memory")
	}
	for i := range second {
		second[i] = 0xff
	}
	if string(two) != "hello" {
		t.Error("Open's answer goes with what was handed in")
	}
}

func TestP1_3_MoreOfSum(t *testing.T) {
	whole := someBytes(300, 9)
	for cut := 0; cut <= len(whole); cut++ {
		if got := More(Sum(whole[:cut]), whole[cut:]); got != plainSum(whole) {
			t.Errorf("cut at %d: %#x, want %#x", cut, got, plainSum(whole))
		}
	}
	for _, a := range edgeInputs() {
		for _, b := range [][]byte{nil, {0}, {0xff}, []byte("hi"), someBytes(33, 4)} {
			if More(Sum(a), b) != plainSum(slices.Concat(a, b)) {
				t.Errorf("%d bytes and %d", len(a), len(b))
			}
		}
	}
}

// refusesTurned asks Open of b with the bits at these places turned, and leaves b as it was.
func refusesTurned(t *testing.T, b []byte, places ...int) {
	t.Helper()
	for _, p := range places {
		b[p/8] ^= 1 << (p % 8)
	}
	if got, err := Open(b); len(got) != 0 || err != api.ErrSum {
		t.Errorf("%d bytes, bits %v turned: %d bytes, %v", len(b), places, len(got), err)
	}
	for _, p := range places {
		b[p/8] ^= 1 << (p % 8)
	}
}

func TestP1_3_AllTurnsOfFewBytes(t *testing.T) {
	for n := 0; n <= 3; n++ {
		b := Seal(someBytes(n, 11))
		bits := 8 * len(b)
		for x := 0; x < bits; x++ {
			refusesTurned(t, b, x)
			for y := x + 1; y < bits; y++ {
				refusesTurned(t, b, x, y)
				for z := y + 1; z < bits; z++ {
					refusesTurned(t, b, x, y, z)
				}
			}
		}
	}
}

func TestP1_3_TurnsOfManyBytes(t *testing.T) {
	for _, body := range [][]byte{make([]byte, 996), bytes.Repeat([]byte{0xff}, 996), someBytes(996, 13)} {
		b := Seal(body)
		bits := 8 * len(b)
		for x := 0; x < bits; x++ {
			refusesTurned(t, b, x)
		}
		seed := uint32(17)
		next := func() int {
			seed = seed*1664525 + 1013904223
			return int(seed>>8) % bits
		}
		for range 4000 {
			x, y, z := next(), next(), next()
			if x == y || y == z || x == z {
				continue
			}
			refusesTurned(t, b, x, y)
			refusesTurned(t, b, x, y, z)
		}
		// A turned bit of the body together with those of the sum, and neighbours at both ends.
		for z := bits - 32; z < bits-1; z++ {
			refusesTurned(t, b, 0, z)
			refusesTurned(t, b, 0, z, z+1)
			refusesTurned(t, b, 0, 1, z)
		}
	}
}
