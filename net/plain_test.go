package net

import (
	"math"
	"math/big"
	"slices"
	"strconv"
	"testing"

	"waystation/api"
)

// plain is a net told another way: a list in the order in which messages came, so in that of their numbers.
type plain struct {
	most, came int
	list       []numbered
}

func (p *plain) put(m api.Parcel) (int, api.Errno) {
	switch {
	case m.From < 0 || m.From > 63 || m.To < 0 || m.To > 63:
		return 0, api.ErrArg
	case len(m.Bytes) > 4096:
		return 0, api.ErrLong
	case len(p.list) == p.most:
		return 0, api.ErrCrowd
	}
	return p.add(m), api.OK
}

func (p *plain) add(m api.Parcel) int {
	p.list = append(p.list, numbered{p.came, api.Parcel{From: m.From, To: m.To, Bytes: []byte(string(m.Bytes))}})
	p.came++
	return p.came - 1
}

// at is the place of the picked one, worked out with numbers without bounds.
func (p *plain) at(pick int) int {
	n := big.NewInt(int64(len(p.list)))
	return int(new(big.Int).Mod(big.NewInt(int64(pick)), n).Int64())
}

func (p *plain) peek(pick int) (numbered, api.Errno) {
	if len(p.list) == 0 {
		return numbered{}, api.ErrNone
	}
	return p.list[p.at(pick)], api.OK
}

func (p *plain) take(pick int) (numbered, api.Errno) {
	x, err := p.peek(pick)
	if err == api.OK {
		at := p.at(pick)
		p.list = slices.Concat(p.list[:at], p.list[at+1:])
	}
	return x, err
}

func (p *plain) dup(pick int) (int, api.Errno) {
	x, err := p.peek(pick)
	switch {
	case err != api.OK:
		return 0, err
	case len(p.list) == p.most:
		return 0, api.ErrCrowd
	}
	return p.add(x.parcel), api.OK
}

// step does one call on both, and fails if they answer unlike, or stand unlike then.
func step(t *testing.T, n *Net, p *plain, call, pick int, m api.Parcel) {
	t.Helper()
	var got, want numbered
	var err, wanted api.Errno
	switch call {
	case 0:
		got.number, err = n.Put(m)
		want.number, wanted = p.put(m)
	case 1:
		got.parcel, got.number, err = n.Peek(pick)
		want, wanted = p.peek(pick)
	case 2:
		got.parcel, got.number, err = n.Take(pick)
		want, wanted = p.take(pick)
	case 3:
		got.number, err = n.Dup(pick)
		want.number, wanted = p.dup(pick)
	case 4:
		got.number, err = n.Drop(pick)
		want, wanted = p.take(pick)
		want.parcel = api.Parcel{}
	}
	if err != wanted || !sameNumbered(got, want) {
		t.Fatalf("call %d, pick %d: %v, %v, want %v, %v", call, pick, got, err, want, wanted)
	}
	if n.Len() != len(p.list) || n.Came() != p.came || !slices.EqualFunc(told(n), p.list, sameNumbered) {
		t.Fatalf("call %d, pick %d: %v, Came %d, want %v, %d", call, pick, told(n), n.Came(), p.list, p.came)
	}
}

func TestP5_4_AllShortLivesAreAsThePlainOnes(t *testing.T) {
	type act struct{ call, pick int }
	acts := []act{{0, 0}, {1, 1}, {2, 0}, {2, -1}, {3, 0}, {3, 1}, {4, 0}, {4, 1}}
	var live func(n *Net, p plain, depth int)
	live = func(n *Net, p plain, depth int) {
		if depth == 0 {
			return
		}
		for _, a := range acts {
			c, q := n.Copy(), p
			q.list = slices.Clone(p.list)
			step(t, c, &q, a.call, a.pick, parcel(depth, a.call, strconv.Itoa(p.came)))
			live(c, q, depth-1)
		}
	}
	for most := 1; most <= 3; most++ {
		live(fresh(t, most), plain{most: most}, 5)
	}
}

func TestP5_4_LongLivesAreAsThePlainOnes(t *testing.T) {
	state := uint64(5)
	draw := func(n int) int {
		state = state*6364136223846793005 + 1442695040888963407
		return int(state>>33) % n
	}
	picks := append(extremes(), 0, 1, -1, 2, -2, 63, 64, -64, 4096, -4097)
	for _, most := range []int{1, 2, 5, 40} {
		n, p := fresh(t, most), plain{most: most}
		for range 3000 {
			pick := picks[draw(len(picks))]
			if draw(2) == 0 {
				pick = draw(100) - 50
			}
			size := []int{0, 1, 2, 3, 5, 8, 13, 20, 4096, 4097}[draw(10)]
			m := api.Parcel{From: draw(66) - 1, To: draw(66) - 1, Bytes: make([]byte, size)}
			for i := range m.Bytes {
				m.Bytes[i] = byte(draw(256))
			}
			step(t, n, &p, draw(5), pick, m)
		}
	}
}

func TestP5_4_WhatIsTakenWasPutOnce(t *testing.T) {
	state := uint64(11)
	draw := func(n int) int {
		state = state*6364136223846793005 + 1442695040888963407
		return int(state>>33) % n
	}
	n := fresh(t, 16)
	of := map[int]string{} // what was put or doubled, by its number
	gone := map[int]bool{}
	last := -1
	came := func(k int, text string) {
		if k <= last {
			t.Fatalf("number %d behind %d", k, last)
		}
		last, of[k] = k, text
	}
	leaves := func(k int) {
		if _, there := of[k]; !there || gone[k] {
			t.Fatalf("%d leaves: there %v, gone %v", k, there, gone[k])
		}
		gone[k] = true
	}
	for i := range 20000 {
		pick := draw(math.MaxInt32) - draw(math.MaxInt32)
		switch draw(4) {
		case 0:
			text := strconv.Itoa(i)
			if k, err := n.Put(parcel(0, 1, text)); err == api.OK {
				came(k, text)
			}
		case 1:
			m, _, _ := n.Peek(pick)
			if k, err := n.Dup(pick); err == api.OK {
				came(k, string(m.Bytes))
			}
		case 2:
			if m, k, err := n.Take(pick); err == api.OK {
				leaves(k)
				if string(m.Bytes) != of[k] {
					t.Fatalf("%d is taken as %q, was put as %q", k, m.Bytes, of[k])
				}
			}
		case 3:
			if k, err := n.Drop(pick); err == api.OK {
				leaves(k)
			}
		}
	}
	if len(of) < 5000 || n.Came() != len(of) || n.Len() != len(of)-len(gone) {
		t.Error(len(of), len(gone), n.Came(), n.Len())
	}
}

func TestP5_4_AGreatNetIsEmptied(t *testing.T) {
	n := fresh(t, 4096)
	for i := range 4096 {
		n.Put(api.Parcel{From: i % 64, Bytes: []byte{byte(i), byte(i >> 8)}})
	}
	gone := make([]int, 4096)
	for i := range 4096 {
		m, k, err := n.Take(i * i * 7919)
		if err != api.OK || k < 0 || k >= 4096 || m.From != k%64 || m.Bytes[0] != byte(k) || m.Bytes[1] != byte(k>>8) {
			t.Fatal(m, k, err)
		}
		gone[k]++
	}
	if slices.Max(gone) != 1 || slices.Min(gone) != 1 {
		t.Error("not each was taken once")
	}
	nothingIsThere(t, n)
	stands(t, n, 4096)
}

func TestExamples(t *testing.T) {
	n := fresh(t, 2)
	a, b, c := parcel(1, 2, "a"), parcel(3, 4, "b"), parcel(5, 6, "c")
	p := plain{most: 2}
	for _, m := range []api.Parcel{a, b, c} {
		step(t, n, &p, 0, 0, m)
	}
	if m, k, err := n.Take(1); !sameParcel(m, b) || k != 1 || err != api.OK {
		t.Error(m, k, err)
	}
	if k, err := n.Dup(0); k != 2 || err != api.OK {
		t.Error(k, err)
	}
	if k, err := n.Dup(0); k != 0 || err != api.ErrCrowd {
		t.Error(k, err)
	}
	if k, err := n.Drop(-1); k != 2 || err != api.OK {
		t.Error(k, err)
	}
	if m, k, err := n.Peek(5); !sameParcel(m, a) || k != 0 || err != api.OK {
		t.Error(m, k, err)
	}
	if m, k, err := n.Take(0); !sameParcel(m, a) || k != 0 || err != api.OK {
		t.Error(m, k, err)
	}
	if m, k, err := n.Take(0); !isZero(m) || k != 0 || err != api.ErrNone {
		t.Error(m, k, err)
	}
}
