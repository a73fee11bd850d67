package net

import (
	"bytes"
	"math"
	"slices"
	"testing"

	"waystation/api"
)

// fresh is a new net of that bound.
func fresh(t *testing.T, most int) *Net {
	t.Helper()
	n, err := New(most)
	if n == nil || err != api.OK {
		t.Fatalf("New(%d): %v, %v", most, n, err)
	}
	return n
}

// parcel is a message of a text.
func parcel(from, to int, text string) api.Parcel {
	return api.Parcel{From: from, To: to, Bytes: []byte(text)}
}

// put puts messages of these texts, which get numbers from Came on.
func put(t *testing.T, n *Net, texts ...string) {
	t.Helper()
	for i, s := range texts {
		came := n.Came()
		if k, err := n.Put(parcel(i%64, (i+1)%64, s)); k != came || err != api.OK {
			t.Fatalf("Put(%q): %d, %v, want %d, OK", s, k, err, came)
		}
	}
}

// numbered is a message with its number.
type numbered struct {
	number int
	parcel api.Parcel
}

// told are the messages of a net, as All tells them.
func told(n *Net) []numbered {
	var l []numbered
	for k, m := range n.All() {
		l = append(l, numbered{k, m})
	}
	return l
}

// sameParcel tells whether two messages are the same, told field by field.
func sameParcel(a, b api.Parcel) bool {
	return a.From == b.From && a.To == b.To && bytes.Equal(a.Bytes, b.Bytes)
}

func sameNumbered(a, b numbered) bool {
	return a.number == b.number && sameParcel(a.parcel, b.parcel)
}

// isZero tells whether a message has nothing.
func isZero(m api.Parcel) bool { return m.From == 0 && m.To == 0 && m.Bytes == nil }

// stands fails if other messages are on their way than those with these numbers, or other numbers were given.
func stands(t *testing.T, n *Net, came int, numbers ...int) {
	t.Helper()
	var got []int
	for k := range n.All() {
		got = append(got, k)
	}
	if !slices.Equal(got, numbers) || n.Len() != len(numbers) || n.Came() != came {
		t.Errorf("%v on their way, Len %d, Came %d, want %v, %d", got, n.Len(), n.Came(), numbers, came)
	}
}

// noNets are those that are not there, or that no call made.
func noNets() []*Net { return []*Net{nil, {}, new(Net)} }

// extremes are numbers at the edges of int.
func extremes() []int {
	return []int{math.MinInt, math.MinInt + 1, math.MaxInt, math.MaxInt - 1, math.MinInt32, math.MaxInt32, 1 << 32, -1 << 32}
}

func TestP5_1_NewAsksForABound(t *testing.T) {
	for _, most := range append(extremes(), 0, -1, 4097, -4096) {
		if n, err := New(most); n != nil || err != api.ErrArg {
			t.Errorf("New(%d): %v, %v", most, n, err)
		}
	}
	for _, most := range []int{1, 2, 63, 64, 4095, 4096} {
		stands(t, fresh(t, most), 0)
	}
}

func TestP5_1_NoNetIsErrNilAheadOfAll(t *testing.T) {
	for i, n := range noNets() {
		for _, m := range []api.Parcel{{}, parcel(1, 2, "a"), parcel(-1, 0, ""), {Bytes: make([]byte, 4097)}, {From: 64, Bytes: make([]byte, 4097)}} {
			if k, err := n.Put(m); k != 0 || err != api.ErrNil {
				t.Errorf("Put: %d, %v", k, err)
			}
		}
		if n.Len() != 0 || n.Came() != 0 {
			t.Error(n.Len(), n.Came())
		}
		if n.made() {
			t.Errorf("%d is a net now", i)
		}
	}
}

func TestP5_1_NetsThatNewRefusedAreNone(t *testing.T) {
	n, _ := New(0)
	if k, err := n.Put(parcel(0, 0, "a")); k != 0 || err != api.ErrNil {
		t.Error(k, err)
	}
	if n.Len() != 0 || n.Came() != 0 || n.Copy() != nil || told(n) != nil || !Same(n, nil) {
		t.Error(n)
	}
}

func TestP5_1_Places(t *testing.T) {
	n := fresh(t, 4096)
	at := 0
	for _, p := range []int{0, 1, 31, 62, 63} {
		for _, q := range []int{0, 1, 31, 62, 63} {
			if k, err := n.Put(api.Parcel{From: p, To: q}); k != at || err != api.OK {
				t.Errorf("from %d to %d: %d, %v", p, q, k, err)
			}
			if m, k, err := n.Peek(at); m.From != p || m.To != q || k != at || err != api.OK {
				t.Errorf("from %d to %d: told %v, %d, %v", p, q, m, k, err)
			}
			at++
		}
	}
	was := n.Copy()
	for _, p := range append(extremes(), -1, 64, 65, -64) {
		for _, q := range []int{0, 63, p} {
			for _, b := range [][]byte{nil, {1}, make([]byte, 4097)} {
				if k, err := n.Put(api.Parcel{From: p, To: q, Bytes: b}); k != 0 || err != api.ErrArg {
					t.Errorf("from %d to %d: %d, %v", p, q, k, err)
				}
				if k, err := n.Put(api.Parcel{From: q, To: p, Bytes: b}); k != 0 || err != api.ErrArg {
					t.Errorf("from %d to %d: %d, %v", q, p, k, err)
				}
			}
		}
	}
	if !Same(n, was) {
		t.Error("what was refused changed the net")
	}
}

func TestP5_1_HowManyBytes(t *testing.T) {
	n := fresh(t, 10)
	for i, size := range []int{0, 1, 40, 4095, 4096} {
		b := bytes.Repeat([]byte{byte(200 + i)}, size)
		if k, err := n.Put(api.Parcel{From: i, Bytes: b}); k != i || err != api.OK {
			t.Errorf("%d bytes: %d, %v", size, k, err)
		}
		if m, _, _ := n.Peek(i); !bytes.Equal(m.Bytes, b) {
			t.Errorf("%d bytes: told %d", size, len(m.Bytes))
		}
	}
	was := n.Copy()
	for _, size := range []int{4097, 4098, 1 << 20} {
		if k, err := n.Put(api.Parcel{Bytes: make([]byte, size)}); k != 0 || err != api.ErrLong {
			t.Errorf("%d bytes: %d, %v", size, k, err)
		}
	}
	if !Same(n, was) {
		t.Error("what was refused changed the net")
	}
	// No bytes and an empty list mean the same.
	a, b := fresh(t, 1), fresh(t, 1)
	a.Put(api.Parcel{})
	b.Put(api.Parcel{Bytes: []byte{}})
	if m, _, err := b.Peek(0); len(m.Bytes) != 0 || err != api.OK || !Same(a, b) {
		t.Error(m, err)
	}
}

func TestP5_1_AsManyAsTheBoundAndOneMore(t *testing.T) {
	for _, most := range []int{1, 2, 3, 4096} {
		n := fresh(t, most)
		for i := range most {
			if k, err := n.Put(api.Parcel{From: i % 64, Bytes: []byte{byte(i)}}); k != i || err != api.OK {
				t.Fatalf("bound %d: %d, %v", most, k, err)
			}
			if n.Len() != i+1 || n.Came() != i+1 {
				t.Fatalf("bound %d: Len %d, Came %d", most, n.Len(), n.Came())
			}
		}
		was := n.Copy()
		if k, err := n.Put(parcel(0, 0, "a")); k != 0 || err != api.ErrCrowd {
			t.Errorf("bound %d: %d, %v", most, k, err)
		}
		if k, err := n.Dup(0); k != 0 || err != api.ErrCrowd {
			t.Errorf("bound %d: %d, %v", most, k, err)
		}
		if !Same(n, was) {
			t.Errorf("bound %d: what was refused changed the net", most)
		}
		n.Drop(0)
		if k, err := n.Put(parcel(0, 0, "a")); k != most || err != api.OK || n.Came() != most+1 || n.Len() != most {
			t.Errorf("bound %d: %d, %v, Came %d", most, k, err, n.Came())
		}
	}
}

func TestP5_1_ErrorsOfPutInTheirOrder(t *testing.T) {
	n := fresh(t, 1)
	put(t, n, "a")
	long := make([]byte, 4097)
	rows := []struct {
		m    api.Parcel
		want api.Errno
	}{
		{api.Parcel{From: -1, Bytes: long}, api.ErrArg},
		{api.Parcel{To: 64, Bytes: long}, api.ErrArg},
		{api.Parcel{From: 64, To: -1}, api.ErrArg},
		{api.Parcel{From: 63, To: 63, Bytes: long}, api.ErrLong},
		{api.Parcel{From: 63, To: 63, Bytes: long[:4096]}, api.ErrCrowd},
		{api.Parcel{}, api.ErrCrowd},
	}
	for i, r := range rows {
		if k, err := n.Put(r.m); k != 0 || err != r.want {
			t.Errorf("%d: %d, %v, want %v", i, k, err, r.want)
		}
	}
	stands(t, n, 1, 0)
}

func TestP5_1_BytesThatTheCallerChanges(t *testing.T) {
	n := fresh(t, 4)
	whole := []byte("hiyou")
	n.Put(api.Parcel{Bytes: whole[:2]})
	copy(whole, "XXXXX")
	n.Put(api.Parcel{Bytes: whole[:2]})
	n.Dup(0)
	whole[0] = 'Y'
	for i, want := range []string{"hi", "XX", "hi"} {
		if m, _, _ := n.Peek(i); string(m.Bytes) != want {
			t.Errorf("%d: %q, want %q", i, m.Bytes, want)
		}
	}
	if string(whole) != "YXXXX" {
		t.Errorf("what was handed in, or behind it, changed: %q", whole)
	}
}

func TestP5_2_NoNetAnswersNothing(t *testing.T) {
	for _, n := range noNets() {
		for _, pick := range append(extremes(), 0, 1, -1) {
			if m, k, err := n.Peek(pick); !isZero(m) || k != 0 || err != api.ErrNil {
				t.Error(m, k, err)
			}
			if m, k, err := n.Take(pick); !isZero(m) || k != 0 || err != api.ErrNil {
				t.Error(m, k, err)
			}
			if k, err := n.Dup(pick); k != 0 || err != api.ErrNil {
				t.Error(k, err)
			}
			if k, err := n.Drop(pick); k != 0 || err != api.ErrNil {
				t.Error(k, err)
			}
		}
	}
}

// nothingIsThere fails if a pick finds something.
func nothingIsThere(t *testing.T, n *Net) {
	t.Helper()
	was := n.Copy()
	for _, pick := range append(extremes(), 0, 1, -1) {
		if m, k, err := n.Peek(pick); !isZero(m) || k != 0 || err != api.ErrNone {
			t.Error(m, k, err)
		}
		if m, k, err := n.Take(pick); !isZero(m) || k != 0 || err != api.ErrNone {
			t.Error(m, k, err)
		}
		if k, err := n.Dup(pick); k != 0 || err != api.ErrNone {
			t.Error(k, err)
		}
		if k, err := n.Drop(pick); k != 0 || err != api.ErrNone {
			t.Error(k, err)
		}
	}
	if !Same(n, was) {
		t.Error("what was refused changed the net")
	}
}

func TestP5_2_NothingOnItsWay(t *testing.T) {
	n := fresh(t, 1)
	nothingIsThere(t, n)
	put(t, n, "a")
	n.Take(0)
	nothingIsThere(t, n)
	put(t, n, "b")
	n.Drop(7)
	nothingIsThere(t, n)
	stands(t, n, 2)
}

// place is which of n a pick picks, told by another way than counting modulo n: by stepping n on or back.
func place(pick, n int) int {
	for pick < 0 {
		pick += n
	}
	for pick >= n {
		pick -= n
	}
	return pick
}

func TestP5_2_PicksAmongThoseOnTheirWay(t *testing.T) {
	numbers := []int{1, 3, 4, 6, 7}
	made := func() *Net {
		n := fresh(t, 9)
		put(t, n, "a", "b", "c", "d", "e", "f", "g", "h")
		// Of 0 to 7 these stay: 1, 3, 4, 6, 7.
		for _, pick := range []int{0, 1, 3} {
			n.Drop(pick)
		}
		stands(t, n, 8, numbers...)
		return n
	}
	for pick := -17; pick <= 17; pick++ {
		want := numbers[place(pick, 5)]
		text := string([]byte{byte('a' + want)})
		n := made()
		if m, k, err := n.Peek(pick); k != want || string(m.Bytes) != text || m.From != want || m.To != want+1 || err != api.OK {
			t.Errorf("Peek(%d): %v, %d, %v, want %d", pick, m, k, err, want)
		}
		stands(t, n, 8, numbers...)
		if k, err := n.Dup(pick); k != 8 || err != api.OK {
			t.Errorf("Dup(%d): %d, %v", pick, k, err)
		}
		if m, k, err := n.Peek(-1); k != 8 || string(m.Bytes) != text || m.From != want || m.To != want+1 || err != api.OK {
			t.Errorf("the double of %d: %v, %d, %v", want, m, k, err)
		}
		stands(t, n, 9, 1, 3, 4, 6, 7, 8)
		rest := slices.DeleteFunc(slices.Clone(numbers), func(k int) bool { return k == want })
		n = made()
		if m, k, err := n.Take(pick); k != want || string(m.Bytes) != text || m.From != want || m.To != want+1 || err != api.OK {
			t.Errorf("Take(%d): %v, %d, %v, want %d", pick, m, k, err, want)
		}
		stands(t, n, 8, rest...)
		n = made()
		if k, err := n.Drop(pick); k != want || err != api.OK {
			t.Errorf("Drop(%d): %d, %v, want %d", pick, k, err, want)
		}
		stands(t, n, 8, rest...)
	}
}

func TestP5_2_PicksAtTheEdgesOfInt(t *testing.T) {
	// 2^63 leaves 0 of 1, 2, 4, 8; 2 of 3 and 6; 3 of 5; 1 of 7. So MinInt picks what is so far from the end, MaxInt one ahead of what is left.
	least := []int{1: 0, 2: 0, 3: 1, 4: 0, 5: 2, 6: 4, 7: 6, 8: 0}
	most := []int{1: 0, 2: 1, 3: 1, 4: 3, 5: 2, 6: 1, 7: 0, 8: 7}
	for size := 1; size <= 8; size++ {
		n := fresh(t, 8)
		for range size {
			put(t, n, "a")
		}
		if _, k, err := n.Peek(math.MinInt); k != least[size] || err != api.OK {
			t.Errorf("MinInt of %d: %d, %v, want %d", size, k, err, least[size])
		}
		if _, k, err := n.Peek(math.MaxInt); k != most[size] || err != api.OK {
			t.Errorf("MaxInt of %d: %d, %v, want %d", size, k, err, most[size])
		}
	}
}

func TestP5_2_OneIsTakenDoubledAndDropped(t *testing.T) {
	n := fresh(t, 3)
	put(t, n, "a")
	if k, err := n.Dup(0); k != 1 || err != api.OK {
		t.Error(k, err)
	}
	if m, k, err := n.Take(0); string(m.Bytes) != "a" || k != 0 || err != api.OK {
		t.Error(m, k, err)
	}
	// The double is its own: it can be doubled behind the one that it was made of.
	if k, err := n.Dup(0); k != 2 || err != api.OK {
		t.Error(k, err)
	}
	if k, err := n.Drop(0); k != 1 || err != api.OK {
		t.Error(k, err)
	}
	if m, k, err := n.Take(0); string(m.Bytes) != "a" || k != 2 || err != api.OK {
		t.Error(m, k, err)
	}
	nothingIsThere(t, n)
	stands(t, n, 3)
}

func TestP5_2_AFullNet(t *testing.T) {
	n := fresh(t, 2)
	put(t, n, "a", "b")
	was := n.Copy()
	for _, pick := range append(extremes(), 0, 1, -1) {
		if k, err := n.Dup(pick); k != 0 || err != api.ErrCrowd {
			t.Errorf("Dup(%d): %d, %v", pick, k, err)
		}
	}
	if m, k, err := n.Peek(1); string(m.Bytes) != "b" || k != 1 || err != api.OK {
		t.Error(m, k, err)
	}
	if !Same(n, was) {
		t.Error("what was refused changed the net")
	}
	if k, err := n.Drop(0); k != 0 || err != api.OK {
		t.Error(k, err)
	}
	if k, err := n.Dup(0); k != 2 || err != api.OK {
		t.Error(k, err)
	}
	stands(t, n, 3, 1, 2)
}

func TestP5_2_BytesThatWereToldAreChanged(t *testing.T) {
	n := fresh(t, 8)
	put(t, n, "abc")
	spoil := func(m api.Parcel) {
		for i := range m.Bytes {
			m.Bytes[i] = 'X'
		}
		_ = append(m.Bytes[:1], "YYYYYYYY"...)
	}
	check := func(what string) {
		t.Helper()
		for _, x := range told(n) {
			if string(x.parcel.Bytes) != "abc" {
				t.Errorf("%s: %d has %q", what, x.number, x.parcel.Bytes)
			}
		}
	}
	m, _, _ := n.Peek(0)
	other, _, _ := n.Peek(0)
	spoil(m)
	if string(other.Bytes) != "abc" {
		t.Errorf("two answers share memory: %q", other.Bytes)
	}
	check("Peek")
	n.Dup(0)
	n.Dup(1)
	c, all := n.Copy(), n.All()
	m, _, _ = n.Take(0)
	spoil(m)
	check("Take")
	m, _, _ = n.Take(0)
	spoil(m)
	check("Take of a double")
	for range 2 {
		for k, m := range all {
			if string(m.Bytes) != "abc" {
				t.Errorf("All: %d has %q", k, m.Bytes)
			}
			spoil(m)
		}
	}
	check("All")
	for range 3 {
		m, _, _ = c.Take(0)
		if string(m.Bytes) != "abc" {
			t.Errorf("Copy: %q", m.Bytes)
		}
		spoil(m)
		check("Copy")
	}
}

func TestP5_3_AllOfNoNetTellsNothing(t *testing.T) {
	for _, n := range append(noNets(), fresh(t, 1)) {
		all := n.All()
		if all == nil {
			t.Fatal("no iterator")
		}
		for range 2 {
			for k, m := range all {
				t.Error("told", k, m)
			}
		}
	}
}

func TestP5_3_AllRises(t *testing.T) {
	n := fresh(t, 4096)
	for i := range 4096 {
		n.Put(api.Parcel{From: i % 64, To: i / 64, Bytes: []byte{byte(i), byte(i >> 8)}})
	}
	next := 0
	for k, m := range n.All() {
		if k != next || m.From != k%64 || m.To != k/64 || !bytes.Equal(m.Bytes, []byte{byte(k), byte(k >> 8)}) {
			t.Fatalf("%d: %v, want %d", k, m, next)
		}
		next++
	}
	if next != 4096 {
		t.Error(next, "were told")
	}
}

func TestP5_3_AllIsLeftAndGoneOverAgain(t *testing.T) {
	n := fresh(t, 5)
	put(t, n, "a", "b", "c", "d", "e")
	all := n.All()
	for leave := range 5 {
		var got []int
		for k, m := range all {
			got = append(got, k)
			if m.Bytes[0] != byte('a'+k) {
				t.Errorf("%d: %q", k, m.Bytes)
			}
			m.Bytes[0] = 'X'
			if k == leave {
				break
			}
		}
		if want := []int{0, 1, 2, 3, 4}[:leave+1]; !slices.Equal(got, want) {
			t.Errorf("%v, want %v", got, want)
		}
	}
	// One may be gone over while it is gone over.
	seen := 0
	for range all {
		for range all {
			seen++
		}
	}
	if seen != 25 {
		t.Error(seen)
	}
	stands(t, n, 5, 0, 1, 2, 3, 4)
}

func TestP5_3_AllBehindOtherCalls(t *testing.T) {
	n := fresh(t, 4)
	put(t, n, "a", "b", "c")
	all := n.All()
	check := func(what string) {
		t.Helper()
		next := 0
		for k, m := range all {
			if k != next || string(m.Bytes) != string([]byte{byte('a' + k)}) || m.From != k {
				t.Errorf("%s: %d %v", what, k, m)
			}
			next++
		}
		if next != 3 {
			t.Errorf("%s: %d are told", what, next)
		}
	}
	put(t, n, "d")
	check("Put")
	n.Take(1)
	check("Take")
	n.Drop(0)
	check("Drop")
	n.Dup(0)
	check("Dup")
	n.Take(0)
	n.Take(0)
	n.Take(0)
	check("all taken")
	put(t, n, "x", "y", "z")
	check("others put")
	stands(t, n, 8, 5, 6, 7)

	// What is called while it is gone over does not change it.
	n = fresh(t, 6)
	put(t, n, "a", "b", "c")
	seen := 0
	for k, m := range n.All() {
		n.Drop(0)
		n.Put(m)
		n.Dup(-1)
		if k != seen {
			t.Errorf("%d, want %d", k, seen)
		}
		seen++
	}
	if seen != 3 || n.Came() != 9 {
		t.Error(seen, n.Came())
	}
}

func TestP5_3_CopyGoesOnApart(t *testing.T) {
	for _, n := range noNets() {
		if n.Copy() != nil {
			t.Error("a copy of no net is there")
		}
	}
	n := fresh(t, 3)
	put(t, n, "a", "b")
	n.Drop(0)
	c := n.Copy()
	if !Same(n, c) || !Same(c, n) || c == n {
		t.Error("a copy is another one")
	}
	stands(t, c, 2, 1)
	// The bound and the count go on in both.
	for _, one := range []*Net{c, n} {
		if k, err := one.Put(parcel(1, 1, "c")); k != 2 || err != api.OK {
			t.Error(k, err)
		}
		if k, err := one.Dup(0); k != 3 || err != api.OK {
			t.Error(k, err)
		}
		if _, err := one.Dup(0); err != api.ErrCrowd {
			t.Error(err)
		}
		if one == c {
			stands(t, n, 2, 1)
			if Same(n, c) {
				t.Error("one went on and is still the same")
			}
		}
	}
	if !Same(n, c) {
		t.Error("both went on alike and are not the same")
	}
	n.Take(0)
	n.Drop(0)
	stands(t, n, 4, 3)
	stands(t, c, 4, 1, 2, 3)
	if !Same(fresh(t, 7).Copy(), fresh(t, 7)) {
		t.Error("a copy of an empty net is another one")
	}
}

func TestP5_3_SameOfNoNets(t *testing.T) {
	for _, a := range noNets() {
		for _, b := range noNets() {
			if !Same(a, b) {
				t.Error("no nets are not the same")
			}
		}
		for _, n := range []*Net{fresh(t, 1), fresh(t, 4096)} {
			if Same(a, n) || Same(n, a) {
				t.Error("a net is like no net")
			}
		}
	}
}

func TestP5_3_SameAsksForAll(t *testing.T) {
	base := func(most int) *Net {
		n := fresh(t, most)
		n.Put(parcel(1, 2, "abc"))
		n.Put(parcel(3, 4, ""))
		return n
	}
	if !Same(base(4), base(4)) {
		t.Error("made alike, not the same")
	}
	one := base(4)
	if !Same(one, one) {
		t.Error("one is not the same as itself")
	}
	with := func(l ...api.Parcel) *Net {
		n := fresh(t, 4)
		for _, m := range l {
			n.Put(m)
		}
		return n
	}
	came := base(4)
	came.Dup(0)
	came.Drop(2)
	moved := with(parcel(0, 0, "x"), parcel(1, 2, "abc"), parcel(3, 4, ""))
	moved.Drop(0)
	more, fewer := base(4), base(4)
	more.Dup(1)
	fewer.Drop(1)
	unlike := map[string]*Net{
		"bound":       base(5),
		"came":        came,
		"numbers":     moved,
		"more":        more,
		"fewer":       fewer,
		"none":        fresh(t, 4),
		"first byte":  with(parcel(1, 2, "Abc"), parcel(3, 4, "")),
		"last byte":   with(parcel(1, 2, "abd"), parcel(3, 4, "")),
		"byte more":   with(parcel(1, 2, "abc\x00"), parcel(3, 4, "")),
		"byte less":   with(parcel(1, 2, "ab"), parcel(3, 4, "")),
		"byte at all": with(parcel(1, 2, "abc"), parcel(3, 4, "\x00")),
		"from":        with(parcel(0, 2, "abc"), parcel(3, 4, "")),
		"to":          with(parcel(1, 2, "abc"), parcel(3, 5, "")),
		"from and to": with(parcel(2, 1, "abc"), parcel(3, 4, "")),
		"order":       with(parcel(3, 4, ""), parcel(1, 2, "abc")),
	}
	for what, n := range unlike {
		if Same(base(4), n) || Same(n, base(4)) {
			t.Errorf("%s: nets that are unlike are the same", what)
		}
	}
	// The same Came, the same Len: which ones stay counts.
	a, b := base(4), base(4)
	a.Dup(0)
	b.Dup(0)
	a.Drop(0)
	b.Drop(2)
	if Same(a, b) {
		t.Error("messages with other numbers are the same")
	}
	// How they came there does not count.
	a, b = base(4), base(4)
	a.Dup(0)
	b.Put(parcel(1, 2, "abc"))
	if !Same(a, b) {
		t.Error("a double and one that was put like it are not the same")
	}
}
