package disk

import (
	"bytes"
	"math"
	"slices"
	"strings"
	"testing"

	"waystation/api"
)

// fresh is a new disk of that room.
func fresh(t *testing.T, room int) *Disk {
	t.Helper()
	d, err := New(room)
	if d == nil || err != api.OK {
		t.Fatalf("New(%d): %v, %v", room, d, err)
	}
	return d
}

// goes fails if an error is not OK.
func goes(t *testing.T, errs ...api.Errno) {
	t.Helper()
	for i, err := range errs {
		if err != api.OK {
			t.Fatalf("call %d: %v, want OK", i, err)
		}
	}
}

// is fails if an error is another one.
func is(t *testing.T, got, want api.Errno) {
	t.Helper()
	if got != want {
		t.Errorf("answers %v, want %v", got, want)
	}
}

// stands fails if a disk does not have just these files, told as name, bytes, name, bytes.
func stands(t *testing.T, d *Disk, told ...string) {
	t.Helper()
	var names []string
	used := 0
	for i := 0; i < len(told); i += 2 {
		names = append(names, told[i])
		used += len(told[i+1])
		if b, err := d.Read(told[i]); string(b) != told[i+1] || err != api.OK {
			t.Errorf("Read(%q): %q, %v, want %q", told[i], b, err, told[i+1])
		}
	}
	if got := d.Names(); !slices.Equal(got, names) {
		t.Errorf("Names: %q, want %q", got, names)
	}
	if got := d.Used(); got != used {
		t.Errorf("Used: %d, want %d", got, used)
	}
}

// lasts fails if a file does not last with just these bytes.
func lasts(t *testing.T, d *Disk, name, want string) {
	t.Helper()
	if b, err := d.Lasts(name); string(b) != want || err != api.OK {
		t.Errorf("Lasts(%q): %q, %v, want %q", name, b, err, want)
	}
}

// crashed is what a crash leaves, of which all has to last.
func crashed(t *testing.T, d *Disk, keep, torn int) *Disk {
	t.Helper()
	left, err := d.Crash(api.Crash{Keep: keep, Torn: torn})
	if left == nil || err != api.OK {
		t.Fatalf("Crash(%d %d): %v, %v", keep, torn, left, err)
	}
	if left.Waits() != 0 {
		t.Errorf("Crash(%d %d): %d wait", keep, torn, left.Waits())
	}
	for _, name := range left.Names() {
		b, _ := left.Read(name)
		lasts(t, left, name, string(b))
	}
	return left
}

// wrongNames are no names.
func wrongNames() []string {
	l := []string{"", strings.Repeat("a", 25), strings.Repeat("a", 1000), "a b", "a_b", "A", "aZ", "a/b", "a-1", "ä", "a\x00", "\xff", "a\xfe"}
	for c := range 256 {
		if (c < 'a' || c > 'z') && (c < '0' || c > '9') && c != '.' {
			one := string([]byte{byte(c)})
			l = append(l, one, "a"+one, one+"a", strings.Repeat("a", 23)+one)
		}
	}
	return l
}

// noDisks are those that are not there, or that no call made.
func noDisks() []*Disk { return []*Disk{nil, {}, new(Disk)} }

func TestP3_1_NewAsksForRoom(t *testing.T) {
	for _, room := range []int{0, -1, 1<<24 + 1, math.MinInt, math.MaxInt, 1 << 31, -1 << 24} {
		if d, err := New(room); d != nil || err != api.ErrArg {
			t.Errorf("New(%d): %v, %v", room, d, err)
		}
	}
	for _, room := range []int{1, 2, 8, 1<<24 - 1, 1 << 24} {
		d := fresh(t, room)
		stands(t, d)
		if d.Waits() != 0 {
			t.Errorf("New(%d): %d wait", room, d.Waits())
		}
	}
}

func TestP3_1_NoDiskIsErrNilAheadOfAll(t *testing.T) {
	for i, d := range noDisks() {
		for _, name := range []string{"a", "", "A"} {
			is(t, d.Put(name, []byte("x")), api.ErrNil)
			is(t, d.Cut(name, -1), api.ErrNil)
			is(t, d.Cut(name, 0), api.ErrNil)
			is(t, d.Remove(name), api.ErrNil)
		}
		is(t, d.Flush(), api.ErrNil)
		if d.made() {
			t.Errorf("%d is a disk now", i)
		}
	}
}

func TestP3_1_NamesThatMayBe(t *testing.T) {
	d := fresh(t, 1<<10)
	l := []string{".", "..", "0", "9", "a", "z", strings.Repeat("a", 24), strings.Repeat(".", 24), "p.000000", "a1.b2"}
	for c := byte('a'); c <= 'z'; c++ {
		l = append(l, string([]byte{c, c}))
	}
	for c := byte('0'); c <= '9'; c++ {
		l = append(l, string([]byte{c, c}))
	}
	for _, name := range l {
		goes(t, d.Put(name, []byte(name)), d.Cut(name, 1))
		if b, err := d.Read(name); string(b) != name[:1] || err != api.OK {
			t.Errorf("Read(%q): %q, %v", name, b, err)
		}
		goes(t, d.Remove(name))
	}
	stands(t, d)
}

func TestP3_1_NamesThatMayNotBe(t *testing.T) {
	d := fresh(t, 4)
	goes(t, d.Put("a", []byte("hi")))
	was := d.Copy()
	for _, name := range wrongNames() {
		for _, err := range []api.Errno{d.Put(name, nil), d.Put(name, []byte("x")), d.Put(name, make([]byte, 5)), d.Cut(name, 0), d.Cut(name, -1), d.Remove(name)} {
			if err != api.ErrName {
				t.Errorf("%q: %v, want ErrName", name, err)
			}
		}
	}
	if !Same(d, was) {
		t.Error("what was refused changed the disk")
	}
}

func TestP3_1_PutBehind(t *testing.T) {
	d := fresh(t, 100)
	goes(t, d.Put("a", []byte("hi")), d.Put("b", []byte("1")), d.Put("a", []byte("you")), d.Put("a", nil), d.Put("c", nil), d.Put("d", []byte{}))
	stands(t, d, "a", "hiyou", "b", "1", "c", "", "d", "")
	goes(t, d.Put("c", []byte{0, 255}))
	stands(t, d, "a", "hiyou", "b", "1", "c", "\x00\xff", "d", "")
}

func TestP3_1_PutAsLongAsThereIsRoom(t *testing.T) {
	d := fresh(t, 1)
	is(t, d.Put("a", []byte("xy")), api.ErrRoom)
	stands(t, d)
	goes(t, d.Put("a", []byte("x")))
	was := d.Copy()
	is(t, d.Put("a", []byte("y")), api.ErrRoom)
	is(t, d.Put("b", []byte("y")), api.ErrRoom)
	if !Same(d, was) {
		t.Error("what was refused changed the disk")
	}
	goes(t, d.Put("b", nil), d.Put("a", nil))
	stands(t, d, "a", "x", "b", "")

	d = fresh(t, 8)
	goes(t, d.Put("a", []byte("123")), d.Put("b", []byte("45")), d.Flush())
	is(t, d.Put("c", []byte("6789")), api.ErrRoom)
	stands(t, d, "a", "123", "b", "45")
	goes(t, d.Put("c", []byte("678")))
	is(t, d.Put("c", []byte("9")), api.ErrRoom)
	stands(t, d, "a", "123", "b", "45", "c", "678")
}

func TestP3_1_RoomIsFreeAgain(t *testing.T) {
	d := fresh(t, 4)
	goes(t, d.Put("a", []byte("1234")), d.Flush(), d.Cut("a", 3), d.Put("b", []byte("5")))
	is(t, d.Put("b", []byte("6")), api.ErrRoom)
	goes(t, d.Remove("a"), d.Put("b", []byte("678")))
	is(t, d.Put("a", []byte("9")), api.ErrRoom)
	stands(t, d, "b", "5678")
	lasts(t, d, "a", "1234")
	goes(t, d.Remove("b"), d.Put("a", []byte("abcd")))
	stands(t, d, "a", "abcd")
}

func TestP3_1_AllTheRoomThereMayBe(t *testing.T) {
	d := fresh(t, 1<<24)
	long := bytes.Repeat([]byte("0123456789abcdef"), 1<<20)
	is(t, d.Put("a", append(long, 'x')), api.ErrRoom)
	goes(t, d.Put("a", long))
	is(t, d.Put("a", []byte{1}), api.ErrRoom)
	is(t, d.Put("b", long), api.ErrRoom)
	if b, err := d.Read("a"); !bytes.Equal(b, long) || err != api.OK || d.Used() != 1<<24 {
		t.Error(len(b), err, d.Used())
	}
	goes(t, d.Flush(), d.Cut("a", 1<<24-1), d.Put("b", []byte{1}))
	left := crashed(t, d, 1, 1)
	if left.Used() != 1<<24 || left.Put("c", []byte{1}) != api.ErrRoom {
		t.Error(left.Used())
	}
}

func TestP3_1_Cut(t *testing.T) {
	d := fresh(t, 10)
	goes(t, d.Put("a", []byte("hiyou")))
	was := d.Copy()
	is(t, d.Cut("b", 0), api.ErrNone)
	is(t, d.Cut("b", -1), api.ErrNone)
	for _, n := range []int{-1, 6, math.MinInt, math.MaxInt, -5} {
		is(t, d.Cut("a", n), api.ErrRange)
	}
	if !Same(d, was) {
		t.Error("what was refused changed the disk")
	}
	goes(t, d.Cut("a", 5))
	stands(t, d, "a", "hiyou")
	goes(t, d.Cut("a", 2))
	stands(t, d, "a", "hi")
	is(t, d.Cut("a", 3), api.ErrRange)
	goes(t, d.Put("a", []byte("s")))
	stands(t, d, "a", "his")
	goes(t, d.Cut("a", 0))
	stands(t, d, "a", "")
	is(t, d.Cut("a", 1), api.ErrRange)
	goes(t, d.Cut("a", 0), d.Put("a", []byte("0123456789")))
	stands(t, d, "a", "0123456789")
	if d.Waits() != 7 {
		t.Error(d.Waits(), "wait, want 7")
	}
}

func TestP3_1_Remove(t *testing.T) {
	d := fresh(t, 10)
	is(t, d.Remove("a"), api.ErrNone)
	goes(t, d.Put("a", []byte("hi")), d.Put("b", nil), d.Remove("a"))
	stands(t, d, "b", "")
	is(t, d.Remove("a"), api.ErrNone)
	is(t, d.Cut("a", 0), api.ErrNone)
	goes(t, d.Remove("b"))
	stands(t, d)
	goes(t, d.Put("a", []byte("x")))
	stands(t, d, "a", "x")
	if d.Waits() != 5 {
		t.Error(d.Waits(), "wait, want 5")
	}
}

func TestP3_1_Flush(t *testing.T) {
	d := fresh(t, 10)
	goes(t, d.Flush(), d.Put("a", []byte("hi")), d.Put("b", nil))
	if _, err := d.Lasts("a"); err != api.ErrNone {
		t.Error("lasts ahead of a flush:", err)
	}
	goes(t, d.Flush())
	lasts(t, d, "a", "hi")
	lasts(t, d, "b", "")
	stands(t, d, "a", "hi", "b", "")
	if d.Waits() != 0 {
		t.Error(d.Waits())
	}
	goes(t, d.Cut("a", 1), d.Remove("b"), d.Put("c", []byte("x")), d.Put("a", []byte("o")))
	lasts(t, d, "a", "hi")
	lasts(t, d, "b", "")
	goes(t, d.Flush(), d.Flush())
	lasts(t, d, "a", "ho")
	lasts(t, d, "c", "x")
	if _, err := d.Lasts("b"); err != api.ErrNone {
		t.Error("a removed file lasts:", err)
	}
}

func TestP3_2_NoDiskAnswersNothing(t *testing.T) {
	for _, d := range noDisks() {
		for _, name := range []string{"a", "", "A"} {
			if b, err := d.Read(name); b != nil || err != api.ErrNil {
				t.Error(b, err)
			}
			if b, err := d.Lasts(name); b != nil || err != api.ErrNil {
				t.Error(b, err)
			}
		}
		if d.Names() != nil || d.Waits() != 0 || d.Used() != 0 {
			t.Error(d.Names(), d.Waits(), d.Used())
		}
	}
}

func TestP3_2_ReadAndLastsRefuse(t *testing.T) {
	d := fresh(t, 10)
	goes(t, d.Put("a", []byte("x")), d.Flush(), d.Remove("a"), d.Put("b", []byte("y")))
	for _, name := range wrongNames() {
		if b, err := d.Read(name); len(b) != 0 || err != api.ErrName {
			t.Errorf("Read(%q): %q, %v", name, b, err)
		}
		if b, err := d.Lasts(name); len(b) != 0 || err != api.ErrName {
			t.Errorf("Lasts(%q): %q, %v", name, b, err)
		}
	}
	if b, err := d.Read("a"); len(b) != 0 || err != api.ErrNone {
		t.Error(b, err)
	}
	if b, err := d.Lasts("b"); len(b) != 0 || err != api.ErrNone {
		t.Error(b, err)
	}
	stands(t, d, "b", "y")
	lasts(t, d, "a", "x")
}

func TestP3_2_NamesAreInOrder(t *testing.T) {
	d := fresh(t, 10)
	in := []string{"b", "a", "z", "0", ".", "ab", "a.", "a0", "9", "aa", "p.000002", "p.000000"}
	for _, name := range in {
		goes(t, d.Put(name, nil))
	}
	want := []string{".", "0", "9", "a", "a.", "a0", "aa", "ab", "b", "p.000000", "p.000002", "z"}
	for range 5 {
		if got := d.Names(); !slices.Equal(got, want) {
			t.Fatalf("%q, want %q", got, want)
		}
	}
	goes(t, d.Flush(), d.Remove("."), d.Remove("z"))
	if got := d.Names(); !slices.Equal(got, want[1:len(want)-1]) {
		t.Errorf("%q", got)
	}
}

func TestP3_2_WaitsAndUsed(t *testing.T) {
	d := fresh(t, 10)
	check := func(waits, used int) {
		t.Helper()
		if d.Waits() != waits || d.Used() != used {
			t.Errorf("waits %d, used %d, want %d, %d", d.Waits(), d.Used(), waits, used)
		}
	}
	check(0, 0)
	goes(t, d.Put("a", []byte("123")))
	check(1, 3)
	goes(t, d.Put("b", nil))
	check(2, 3)
	goes(t, d.Put("b", []byte("4567")))
	check(3, 7)
	is(t, d.Put("c", []byte("8901")), api.ErrRoom)
	is(t, d.Put("C", nil), api.ErrName)
	is(t, d.Cut("b", 5), api.ErrRange)
	is(t, d.Remove("c"), api.ErrNone)
	check(3, 7)
	goes(t, d.Cut("b", 4))
	check(4, 7)
	goes(t, d.Cut("b", 1))
	check(5, 4)
	goes(t, d.Flush())
	check(0, 4)
	goes(t, d.Remove("a"))
	check(1, 1)
	goes(t, d.Remove("b"))
	check(2, 0)
}

func TestP3_2_MemoryIsApart(t *testing.T) {
	d := fresh(t, 100)
	whole := []byte("hiyou....")
	given := whole[:2]
	goes(t, d.Put("a", given), d.Put("a", []byte("!")))
	if string(whole) != "hiyou...." {
		t.Errorf("spare room was changed: %q", whole)
	}
	given[0] = 'X'
	stands(t, d, "a", "hi!")
	goes(t, d.Flush())
	lasts(t, d, "a", "hi!")

	for _, read := range []func(string) ([]byte, api.Errno){d.Read, d.Lasts} {
		one, _ := read("a")
		two, _ := read("a")
		one[0] = 'Y'
		_ = append(one[:1], "ZZZZZ"...)
		if string(two) != "hi!" {
			t.Errorf("two answers share memory: %q", two)
		}
		stands(t, d, "a", "hi!")
		lasts(t, d, "a", "hi!")
	}
	one, two := d.Names(), d.Names()
	one[0] = "q"
	if two[0] != "a" {
		t.Error("two lists of names share memory")
	}
	stands(t, d, "a", "hi!")

	goes(t, d.Put("a", []byte("?")))
	lasts(t, d, "a", "hi!")
	goes(t, d.Cut("a", 1), d.Put("a", []byte("EY")))
	lasts(t, d, "a", "hi!")
}

func TestP3_2_AShortFileGrowsAgain(t *testing.T) {
	d := fresh(t, 1000)
	long := bytes.Repeat([]byte("0123456789"), 100)
	goes(t, d.Put("a", long))
	want := string(long)
	for _, n := range []int{999, 600, 499, 100, 7, 1, 0} {
		was, _ := d.Read("a")
		goes(t, d.Cut("a", n), d.Put("a", []byte("x")))
		want = want[:n] + "x"
		stands(t, d, "a", want)
		if n > 0 && was[n] == 'x' {
			t.Error("an answer changed")
		}
	}
}

// lived is the disk of the document's examples, ahead of its crashes.
func lived(t *testing.T) *Disk {
	t.Helper()
	d := fresh(t, 8)
	goes(t, d.Put("a", []byte("hi")), d.Flush(), d.Put("a", []byte("you")))
	is(t, d.Put("b", []byte("1234")), api.ErrRoom)
	return d
}

func TestP3_3_ExamplesOfCrashes(t *testing.T) {
	d := lived(t)
	for _, row := range []struct {
		keep, torn int
		want       string
	}{
		{0, 0, "hi"}, {0, 1, "hiy"}, {0, 2, "hiyo"}, {0, 3, "hiyou"}, {0, 4, "hi"}, {0, 6, "hiyo"},
		{0, -1, "hiyou"}, {0, -2, "hiyo"}, {0, -4, "hi"}, {0, -5, "hiyou"},
		{1, 0, "hiyou"}, {1, 2, "hiyou"}, {2, 0, "hi"}, {2, 2, "hiyo"}, {3, 1, "hiyou"},
		{-1, 0, "hiyou"}, {-2, 1, "hiy"}, {-3, 0, "hiyou"},
		{math.MaxInt, 0, "hiyou"}, {math.MinInt, 1, "hiy"}, {0, math.MaxInt, "hiyou"}, {0, math.MinInt, "hi"},
	} {
		left := crashed(t, d, row.keep, row.torn)
		if b, err := left.Read("a"); string(b) != row.want || err != api.OK {
			t.Errorf("Crash(%d %d): %q, %v, want %q", row.keep, row.torn, b, err, row.want)
		}
		stands(t, left, "a", row.want)
	}
	stands(t, d, "a", "hiyou")
	lasts(t, d, "a", "hi")
	if d.Waits() != 1 {
		t.Error("a crash changed the disk that it is asked of")
	}
}

func TestP3_3_NoDiskNoCrash(t *testing.T) {
	for _, d := range noDisks() {
		if left, err := d.Crash(api.Crash{Keep: 1, Torn: 1}); left != nil || err != api.ErrNil {
			t.Error(left, err)
		}
	}
}

func TestP3_3_OnlyPutsAreTorn(t *testing.T) {
	d := fresh(t, 20)
	goes(t, d.Put("a", []byte("hello")), d.Put("b", []byte("x")), d.Flush())
	goes(t, d.Cut("a", 3), d.Remove("b"), d.Put("c", nil), d.Put("d", []byte("yz")), d.Put("a", []byte("p")))
	for torn := -7; torn <= 7; torn++ {
		stands(t, crashed(t, d, 0, torn), "a", "hello", "b", "x")
		stands(t, crashed(t, d, 1, torn), "a", "hel", "b", "x")
		stands(t, crashed(t, d, 2, torn), "a", "hel")
		stands(t, crashed(t, d, 5, torn), "a", "help", "c", "", "d", "yz")
	}
	stands(t, crashed(t, d, 3, 0), "a", "hel", "c", "")
	stands(t, crashed(t, d, 3, 3), "a", "hel", "c", "")
	stands(t, crashed(t, d, 3, 1), "a", "hel", "c", "", "d", "y")
	stands(t, crashed(t, d, 3, 2), "a", "hel", "c", "", "d", "yz")
	stands(t, crashed(t, d, 3, -2), "a", "hel", "c", "", "d", "y")
	stands(t, crashed(t, d, 4, 0), "a", "hel", "c", "", "d", "yz")
	stands(t, crashed(t, d, 4, 1), "a", "help", "c", "", "d", "yz")
	stands(t, crashed(t, d, -2, -1), "a", "help", "c", "", "d", "yz")
	stands(t, crashed(t, d, 6, 1), "a", "hello", "b", "x")
}

func TestP3_3_WhatACrashLeavesGoesOnApart(t *testing.T) {
	d := lived(t)
	was := d.Copy()
	left := crashed(t, d, 0, 1)
	is(t, left.Put("b", []byte("123456")), api.ErrRoom)
	goes(t, left.Put("a", []byte("12345")))
	is(t, left.Put("a", []byte("6")), api.ErrRoom)
	lasts(t, left, "a", "hiy")
	goes(t, left.Cut("a", 0), left.Put("a", []byte("Q")), left.Remove("a"), left.Put("z", nil), left.Flush())
	if !Same(d, was) {
		t.Error("what was done to what a crash left was done to the disk")
	}
	kept := crashed(t, d, 1, 0)
	goes(t, d.Cut("a", 0), d.Put("a", []byte("QQQQ")), d.Flush())
	stands(t, kept, "a", "hiyou")
	lasts(t, kept, "a", "hiyou")
}

func TestP3_3_ACrashOfNothingThatWaits(t *testing.T) {
	d := fresh(t, 5)
	for _, pick := range []int{0, 1, -1, math.MaxInt, math.MinInt} {
		if left := crashed(t, d, pick, pick); !Same(left, d) {
			t.Error(pick, "an empty disk")
		}
	}
	goes(t, d.Put("a", []byte("x")), d.Put("b", nil), d.Flush())
	for _, pick := range []int{0, 1, -1, math.MaxInt, math.MinInt} {
		if left := crashed(t, d, pick, pick); !Same(left, d) {
			t.Error(pick, "a disk with files")
		}
	}
}

func TestP3_3_CopyStandsAlikeAndGoesOnApart(t *testing.T) {
	for _, d := range noDisks() {
		if d.Copy() != nil {
			t.Error("a copy of none")
		}
	}
	d := lived(t)
	goes(t, d.Put("b", []byte("z")), d.Put("b", nil))
	a, b := d.Copy(), d.Copy()
	if a == d || !Same(a, d) || !Same(b, d) || a.Waits() != 3 {
		t.Error("a copy does not stand alike")
	}
	stands(t, a, "a", "hiyou", "b", "z")
	lasts(t, a, "a", "hi")
	// All three go on behind the same things that wait: none may write where another one does.
	goes(t, a.Put("b", []byte("A")), b.Put("b", []byte("B")), d.Put("b", []byte("D")))
	stands(t, crashed(t, a, 4, 0), "a", "hiyou", "b", "zA")
	stands(t, crashed(t, b, 4, 0), "a", "hiyou", "b", "zB")
	stands(t, crashed(t, d, 4, 0), "a", "hiyou", "b", "zD")
	goes(t, a.Cut("a", 1), a.Put("a", []byte("?")), a.Flush(), a.Remove("b"))
	stands(t, a, "a", "h?")
	stands(t, d, "a", "hiyou", "b", "zD")
	lasts(t, d, "a", "hi")
	goes(t, d.Remove("a"), d.Flush())
	stands(t, b, "a", "hiyou", "b", "zB")
	lasts(t, b, "a", "hi")
	lasts(t, a, "a", "h?")
	is(t, b.Put("c", []byte("12")), api.ErrRoom)
}

func TestP3_3_SameOfNone(t *testing.T) {
	d := fresh(t, 1)
	for _, a := range noDisks() {
		for _, b := range noDisks() {
			if !Same(a, b) {
				t.Error("none is not like none")
			}
		}
		if Same(a, d) || Same(d, a) {
			t.Error("none is like one")
		}
	}
	if !Same(d, d) || !Same(d, d.Copy()) || !Same(d, fresh(t, 1)) || Same(d, fresh(t, 2)) {
		t.Error("disks without files")
	}
}

func TestP3_3_SameAsksAll(t *testing.T) {
	x, y, none := []byte("x"), []byte("y"), []byte(nil)
	// Each is done to a disk with the files a and b, of two bytes each, that last.
	lives := [][]func(*Disk) api.Errno{
		{},
		{func(d *Disk) api.Errno { return d.Put("a", x) }},
		{func(d *Disk) api.Errno { return d.Put("a", y) }},
		{func(d *Disk) api.Errno { return d.Put("b", x) }},
		{func(d *Disk) api.Errno { return d.Put("c", x) }},
		{func(d *Disk) api.Errno { return d.Put("c", none) }},
		{func(d *Disk) api.Errno { return d.Put("d", none) }},
		{func(d *Disk) api.Errno { return d.Put("a", none) }},
		{func(d *Disk) api.Errno { return d.Put("b", none) }},
		{func(d *Disk) api.Errno { return d.Cut("a", 2) }},
		{func(d *Disk) api.Errno { return d.Cut("b", 2) }},
		{func(d *Disk) api.Errno { return d.Cut("a", 1) }},
		{func(d *Disk) api.Errno { return d.Cut("a", 0) }},
		{func(d *Disk) api.Errno { return d.Remove("a") }},
		{func(d *Disk) api.Errno { return d.Remove("b") }},
		{(*Disk).Flush, func(d *Disk) api.Errno { return d.Put("a", x) }, (*Disk).Flush},
		{func(d *Disk) api.Errno { return d.Put("c", x) }, (*Disk).Flush},
		{func(d *Disk) api.Errno { return d.Put("d", x) }, (*Disk).Flush},
		{func(d *Disk) api.Errno { return d.Put("c", none) }, (*Disk).Flush},
		{func(d *Disk) api.Errno { return d.Put("a", x) }, func(d *Disk) api.Errno { return d.Put("a", y) }},
		{func(d *Disk) api.Errno { return d.Put("a", y) }, func(d *Disk) api.Errno { return d.Put("a", x) }},
		{func(d *Disk) api.Errno { return d.Put("a", []byte("xy")) }},
		{func(d *Disk) api.Errno { return d.Put("a", x) }, func(d *Disk) api.Errno { return d.Put("b", x) }},
		{func(d *Disk) api.Errno { return d.Put("b", x) }, func(d *Disk) api.Errno { return d.Put("a", x) }},
		{func(d *Disk) api.Errno { return d.Put("a", x) }, func(d *Disk) api.Errno { return d.Cut("a", 2) }},
		// These stand and last alike, two by two, and differ in one thing that waits.
		{func(d *Disk) api.Errno { return d.Cut("a", 1) }, func(d *Disk) api.Errno { return d.Cut("a", 0) }},
		{func(d *Disk) api.Errno { return d.Cut("a", 0) }, func(d *Disk) api.Errno { return d.Cut("a", 0) }},
		{func(d *Disk) api.Errno { return d.Remove("a") }, func(d *Disk) api.Errno { return d.Remove("b") }},
		{func(d *Disk) api.Errno { return d.Remove("b") }, func(d *Disk) api.Errno { return d.Remove("a") }},
		{func(d *Disk) api.Errno { return d.Cut("a", 0) }, func(d *Disk) api.Errno { return d.Put("a", none) }},
		{func(d *Disk) api.Errno { return d.Remove("a") }, func(d *Disk) api.Errno { return d.Put("a", none) }},
		// These stand alike, the same waits, and other bytes last.
		{func(d *Disk) api.Errno { return d.Put("a", x) }, (*Disk).Flush, func(d *Disk) api.Errno { return d.Remove("a") }},
		{func(d *Disk) api.Errno { return d.Put("a", y) }, (*Disk).Flush, func(d *Disk) api.Errno { return d.Remove("a") }},
	}
	behind := func(life []func(*Disk) api.Errno) *Disk {
		d := fresh(t, 10)
		goes(t, d.Put("a", []byte("hi")), d.Put("b", []byte("hi")), d.Flush())
		for _, do := range life {
			goes(t, do(d))
		}
		return d
	}
	for i, p := range lives {
		for j, q := range lives {
			if got := Same(behind(p), behind(q)); got != (i == j) {
				t.Errorf("lives %d and %d: Same answers %v", i, j, got)
			}
		}
	}
}

func TestP3_3_SameGoesByWhatItIsNotByHowItCame(t *testing.T) {
	a, b := fresh(t, 10), fresh(t, 10)
	goes(t, a.Put("a", []byte("h")), a.Put("a", []byte("ixx")), a.Put("c", nil), a.Cut("a", 2), a.Remove("c"), a.Flush())
	goes(t, b.Put("a", []byte("hi")), b.Flush())
	if !Same(a, b) || !Same(b, a) {
		t.Error("the same files that last")
	}
	goes(t, a.Put("a", nil), b.Put("a", []byte{}))
	if !Same(a, b) {
		t.Error("nil and no bytes")
	}
}

// mixed tells numbers that look mixed and are the same in each run.
type mixed uint64

func (m *mixed) next() uint64 {
	*m = *m*6364136223846793005 + 1442695040888963407
	return uint64(*m >> 33)
}

func (m *mixed) below(n int) int { return int(m.next() % uint64(n)) }

// pick tells a number near 0, or a huge one.
func (m *mixed) pick() int {
	switch m.below(8) {
	case 0:
		return math.MaxInt - m.below(40)
	case 1:
		return math.MinInt + m.below(40)
	}
	return m.below(60) - 30
}

// plain is a disk a second way: what stood behind each thing since the last flush, and what the thing put.
type plain struct {
	room int
	at   []map[string]string
	name []string
	puts []string
}

func (p *plain) now() map[string]string { return p.at[len(p.at)-1] }

// then is a copy of the files as they stand, for the next thing.
func (p *plain) then() map[string]string {
	m := map[string]string{}
	for k, v := range p.now() {
		m[k] = v
	}
	return m
}

func (p *plain) done(m map[string]string, name, puts string) {
	p.at, p.name, p.puts = append(p.at, m), append(p.name, name), append(p.puts, puts)
}

func usedOf(m map[string]string) int {
	n := 0
	for _, v := range m {
		n += len(v)
	}
	return n
}

// modulo goes up to the one from 0 to most that a pick picks.
func modulo(pick, most int) int {
	r := pick % (most + 1)
	for r < 0 {
		r += most + 1
	}
	return r
}

func (p *plain) crash(keep, torn int) map[string]string {
	k := modulo(keep, len(p.puts))
	m := map[string]string{}
	for name, v := range p.at[k] {
		m[name] = v
	}
	if k < len(p.puts) {
		if n := modulo(torn, len(p.puts[k])); n > 0 {
			m[p.name[k]] += p.puts[k][:n]
		}
	}
	return m
}

// like fails if a disk's files, by names and by one of its calls, are others.
func like(t *testing.T, read func(string) ([]byte, api.Errno), want map[string]string) {
	t.Helper()
	for _, name := range []string{"a", "b", "c", "d", "e"} {
		b, err := read(name)
		v, there := want[name]
		if there && (err != api.OK || string(b) != v) || !there && err != api.ErrNone {
			t.Fatalf("%s: %q, %v, want %q, %v", name, b, err, v, there)
		}
	}
}

// step does one mixed thing to both, and tells what the disk answers and what it has to.
func step(m *mixed, d *Disk, p *plain) (api.Errno, api.Errno) {
	name := []string{"a", "b", "c", "d", "e"}[m.below(5)]
	old, there := p.now()[name]
	next := p.then()
	switch m.below(10) {
	case 0:
		p.at, p.name, p.puts = []map[string]string{next}, nil, nil
		return d.Flush(), api.OK
	case 1, 2, 3, 4, 5:
		b := []byte("0123456789")[:m.below(11)]
		want := api.ErrRoom
		if usedOf(next)+len(b) <= p.room {
			next[name] = old + string(b)
			p.done(next, name, string(b))
			want = api.OK
		}
		return d.Put(name, b), want
	case 6, 7, 8:
		n := m.below(len(old)+3) - 1
		want := api.OK
		switch {
		case !there:
			want = api.ErrNone
		case n < 0 || n > len(old):
			want = api.ErrRange
		default:
			next[name] = old[:n]
			p.done(next, name, "")
		}
		return d.Cut(name, n), want
	}
	want := api.ErrNone
	if there {
		delete(next, name)
		p.done(next, name, "")
		want = api.OK
	}
	return d.Remove(name), want
}

func TestP3_3_MixedLivesAreAsThoseOfASecondWay(t *testing.T) {
	m := mixed(3)
	for range 300 {
		room := 1 + m.below(60)
		d, p := fresh(t, room), &plain{room: room, at: []map[string]string{{}}}
		for range 60 {
			if got, want := step(&m, d, p); got != want {
				t.Fatalf("answers %v, want %v", got, want)
			}
			like(t, d.Read, p.now())
			like(t, d.Lasts, p.at[0])
			if d.Waits() != len(p.puts) || d.Used() != usedOf(p.now()) || len(d.Names()) != len(p.now()) {
				t.Fatal(d.Waits(), d.Used(), d.Names())
			}
			was := d.Copy()
			keep, torn := m.pick(), m.pick()
			left := crashed(t, d, keep, torn)
			like(t, left.Read, p.crash(keep, torn))
			like(t, left.Lasts, p.crash(keep, torn))
			if left.Used() != usedOf(p.crash(keep, torn)) || !Same(d, was) {
				t.Fatal("a crash leaves another sum, or changes the disk")
			}
			if m.below(20) == 0 {
				d, p = left, &plain{room: room, at: []map[string]string{p.crash(keep, torn)}}
			}
		}
	}
}

func TestP3_4_NothingKeptIsWhatLastsAllKeptIsWhatStands(t *testing.T) {
	m := mixed(4)
	for range 200 {
		room := 1 + m.below(60)
		d, p := fresh(t, room), &plain{room: room, at: []map[string]string{{}}}
		for range 40 {
			step(&m, d, p)
			n := d.Waits() + 1
			for _, times := range []int{0, n, -n, 5 * n} {
				none := crashed(t, d, times, 0)
				like(t, none.Read, p.at[0])
				all := crashed(t, d, times-1, m.pick())
				like(t, all.Read, p.now())
			}
		}
		flushed := d.Copy()
		goes(t, flushed.Flush())
		if all := crashed(t, d, d.Waits(), 1); !Same(all, flushed) {
			t.Fatal("a crash that keeps all is not as a flush")
		}
	}
}

func TestP3_4_WhatNothingWasDoneToIsAsItWas(t *testing.T) {
	m := mixed(5)
	for range 300 {
		d := fresh(t, 100)
		p := &plain{room: 100, at: []map[string]string{{}}}
		goes(t, d.Put("quiet", []byte("as it was")), d.Put("still", nil), d.Flush())
		p.room -= len("as it was")
		for range 20 {
			step(&m, d, p)
			left := crashed(t, d, m.pick(), m.pick())
			for _, x := range []*Disk{left, d} {
				lasts(t, x, "quiet", "as it was")
				lasts(t, x, "still", "")
			}
			if b, err := left.Read("quiet"); string(b) != "as it was" || err != api.OK {
				t.Fatalf("%q, %v", b, err)
			}
		}
	}
}

func TestP3_4_ManyFilesAndThingsEnd(t *testing.T) {
	d := fresh(t, 1<<24)
	name := func(i int) string {
		return string([]byte{'f', byte('a' + i%26), byte('a' + i/26%26), byte('a' + i/676%26), byte('a' + i/17576)})
	}
	const many = 50000
	for i := range many {
		goes(t, d.Put(name(i), []byte("x")))
	}
	for i := range many {
		goes(t, d.Put("a", []byte{byte(i)}), d.Cut(name(i), 0))
	}
	if d.Waits() != 3*many || d.Used() != many || len(d.Names()) != many+1 {
		t.Error(d.Waits(), d.Used(), len(d.Names()))
	}
	if left := crashed(t, d, many, 1); left.Used() != many+1 {
		t.Error(left.Used())
	}
	goes(t, d.Flush())
	if left := crashed(t, d, 0, 0); !Same(left, d) {
		t.Error("what lasts is not what stands")
	}
}
