package seglog

import (
	"fmt"
	"math"
	"regexp"
	"slices"
	"strings"
	"testing"

	"waystation/api"
	"waystation/disk"
	"waystation/wire"
)

// data is an entry of nobody.
func data(epoch, value int64) api.Entry {
	return api.Entry{Epoch: epoch, ID: -1, Kind: api.EntryData, Value: value}
}

// run is n entries of an epoch, with values from from on.
func run(epoch, from int64, n int) []api.Entry {
	var l []api.Entry
	for i := range n {
		l = append(l, data(epoch, from+int64(i)))
	}
	return l
}

// framed is the frames of entries.
func framed(t *testing.T, l ...api.Entry) []byte {
	t.Helper()
	b, err := wire.Frames(l...)
	goes(t, err)
	return b
}

// goes fails if an error is not OK.
func goes(t *testing.T, errs ...api.Errno) {
	t.Helper()
	for i, err := range errs {
		if err != api.OK {
			t.Fatalf("call %d: %v, want OK", i, err)
		}
	}
}

// is fails if an error is another one.
func is(t *testing.T, got, want api.Errno) {
	t.Helper()
	if got != want {
		t.Errorf("answers %v, want %v", got, want)
	}
}

// room is a new disk with room for so many bytes.
func room(t *testing.T, n int) *disk.Disk {
	t.Helper()
	d, err := disk.New(n)
	goes(t, err)
	return d
}

// opened is a log of that disk.
func opened(t *testing.T, d *disk.Disk, name string, per int) *Log {
	t.Helper()
	l, err := Open(d, name, per)
	if l == nil || err != api.OK {
		t.Fatalf("Open(%q, %d): %v, %v", name, per, l, err)
	}
	return l
}

// appended fails if not all of them are.
func appended(t *testing.T, l *Log, entries ...api.Entry) {
	t.Helper()
	if n, err := l.Append(entries...); n != len(entries) || err != api.OK {
		t.Fatalf("Append: %d, %v, want all %d", n, err, len(entries))
	}
}

// has fails if a log does not have just these entries, by all the ways in which it tells them.
func has(t *testing.T, l *Log, want ...api.Entry) {
	t.Helper()
	if l.Len() != len(want) {
		t.Errorf("Len: %d, want %d", l.Len(), len(want))
	}
	if got := l.All(); !slices.Equal(got, want) {
		t.Errorf("All: %v, want %v", got, want)
	}
	for i, w := range want {
		if e, err := l.Get(i); e != w || err != api.OK {
			t.Errorf("Get(%d): %v, %v, want %v", i, e, err, w)
		}
	}
	n := 0
	for i, e := range l.From(0) {
		if i != n || n >= len(want) || e != want[n] {
			t.Fatalf("From(0): %d, %v", i, e)
		}
		n++
	}
	if n != len(want) {
		t.Errorf("From(0): %d, want %d", n, len(want))
	}
}

// files fails if a log does not have just these files.
func files(t *testing.T, l *Log, want ...string) {
	t.Helper()
	if got := l.Files(); !slices.Equal(got, want) {
		t.Errorf("Files: %q, want %q", got, want)
	}
}

// sure fails if not just so many entries are.
func sure(t *testing.T, l *Log, want int) {
	t.Helper()
	if got := l.Sure(); got != want {
		t.Errorf("Sure: %d, want %d", got, want)
	}
}

// alike fails if two disks differ, in what waits too.
func alike(t *testing.T, got, want *disk.Disk) {
	t.Helper()
	if !disk.Same(got, want) {
		t.Errorf("the disk has %s\nwant %s", told(got), told(want))
	}
}

// told is a disk as a text.
func told(d *disk.Disk) string {
	var b strings.Builder
	for _, name := range d.Names() {
		f, _ := d.Read(name)
		fmt.Fprintf(&b, "%s(%x) ", name, f)
	}
	return fmt.Sprint(b.String(), "and ", d.Waits(), " that wait")
}

// noLogs are those that are not there, or that no call made.
func noLogs() []*Log { return []*Log{nil, {}, new(Log)} }

// mixed is numbers that look like picked at random, and are the same each time.
type mixed uint64

func (m *mixed) below(n int) int {
	*m = *m*6364136223846793005 + 1442695040888963407
	return int(uint64(*m>>33) % uint64(n))
}

// entry is one of any kind that may be, of that epoch.
func (m *mixed) entry(epoch int64) api.Entry {
	e := data(epoch, int64(m.below(1<<32))-1<<31)
	switch m.below(3) {
	case 1:
		e.ID, e.Num, e.Seq = m.below(api.MaxIDs), int64(1+m.below(api.MaxNumber)), int64(m.below(1000))
	case 2:
		e.ID, e.Num, e.Kind, e.Value = m.below(api.MaxIDs), int64(1+m.below(1000)), api.EntryCommit+api.EntryKind(m.below(2)), 0
	}
	return e
}

// plain is a log by a second, plain way: what the document says is done by hand to a disk of its own.
type plain struct {
	d    *disk.Disk
	name string
	per  int
	l    []api.Entry
	sure int
}

func (p *plain) file(first int) string { return fmt.Sprintf("%s.%06d", p.name, first) }

// plainly opens a log on a copy of a disk.
func plainly(d *disk.Disk, name string, per int) *plain {
	p := &plain{d: d.Copy(), name: name, per: per}
	waited := d.Waits()
	for first := 0; ; first += per {
		b, err := p.d.Read(p.file(first))
		n, good := 0, 0
		for _, e := range wire.All(b).Entries {
			if n == per || len(p.l) == api.MaxLog || len(p.l) > 0 && e.Epoch < p.l[len(p.l)-1].Epoch {
				break
			}
			f, _ := wire.Frame(e)
			p.l, n, good = append(p.l, e), n+1, good+len(f)
		}
		if n == per && len(p.l) < api.MaxLog {
			continue
		}
		if err == api.OK && n == 0 {
			p.d.Remove(p.file(first))
		} else if good < len(b) {
			p.d.Cut(p.file(first), good)
		}
		break
	}
	keep := map[string]bool{}
	for first := 0; first < len(p.l); first += per {
		keep[p.file(first)] = true
	}
	for _, f := range slices.Backward(p.files()) {
		if !keep[f] {
			p.d.Remove(f)
		}
	}
	if waited == 0 {
		p.sure = len(p.l)
	}
	return p
}

func (p *plain) files() []string {
	called := regexp.MustCompile(`^` + p.name + `\.[0-9]{6}$`)
	var l []string
	for _, f := range p.d.Names() {
		if called.MatchString(f) {
			l = append(l, f)
		}
	}
	return l
}

func (p *plain) add(entries ...api.Entry) (int, api.Errno) {
	for i, e := range entries {
		if wire.Check(e) != api.OK {
			return i, api.ErrArg
		}
		if len(p.l) >= api.MaxLog {
			return i, api.ErrLong
		}
		if len(p.l) > 0 && p.l[len(p.l)-1].Epoch > e.Epoch {
			return i, api.ErrFalls
		}
		f, _ := wire.Frame(e)
		if err := p.d.Put(p.file(len(p.l)/p.per*p.per), f); err != api.OK {
			return i, err
		}
		p.l = append(p.l, e)
	}
	return len(entries), api.OK
}

func (p *plain) truncate(n int) api.Errno {
	if n < 0 || n > len(p.l) {
		return api.ErrRange
	}
	for first := api.MaxLog / p.per * p.per; first >= n; first -= p.per {
		if first < len(p.l) {
			p.d.Remove(p.file(first))
		}
	}
	first := n / p.per * p.per
	if first < n && min(len(p.l), first+p.per) > n {
		f, _ := wire.Frames(p.l[first:n]...)
		p.d.Cut(p.file(first), len(f))
	}
	p.l = slices.Clone(p.l[:n])
	p.sure = min(p.sure, n)
	return api.OK
}

func (p *plain) flush() {
	p.d.Flush()
	p.sure = len(p.l)
}

// matches fails if a log is not as the plain one is.
func (p *plain) matches(t *testing.T, l *Log) {
	t.Helper()
	has(t, l, p.l...)
	sure(t, l, p.sure)
	files(t, l, p.files()...)
	alike(t, l.Disk(), p.d)
	if t.Failed() {
		t.FailNow()
	}
}

func TestP4_1_NoDiskIsErrNilAheadOfAll(t *testing.T) {
	for _, d := range []*disk.Disk{nil, {}, new(disk.Disk)} {
		for _, name := range []string{"p", "", "P", strings.Repeat("a", 9)} {
			for _, per := range []int{1, 0, 257, -1} {
				if l, err := Open(d, name, per); l != nil || err != api.ErrNil {
					t.Errorf("Open(none, %q, %d): %v, %v", name, per, l, err)
				}
			}
		}
	}
}

func TestP4_1_NamesThatMayNotBe(t *testing.T) {
	d := room(t, 100)
	goes(t, d.Put("p.000000", []byte("junk")), d.Put("p.000001", nil))
	was := d.Copy()
	names := []string{"", strings.Repeat("a", 9), strings.Repeat("a", 1000), "p.", ".", "p.000000", "ä", "\xff"}
	for c := range 256 {
		if (c < 'a' || c > 'z') && (c < '0' || c > '9') {
			one := string([]byte{byte(c)})
			names = append(names, one, "p"+one, one+"p", "abcdefg"+one)
		}
	}
	for _, name := range names {
		for _, per := range []int{1, 2, 256, 0} {
			if l, err := Open(d, name, per); l != nil || err != api.ErrArg {
				t.Errorf("Open(d, %q, %d): %v, %v", name, per, l, err)
			}
		}
	}
	alike(t, d, was)
}

func TestP4_1_PersThatMayNotBe(t *testing.T) {
	d := room(t, 100)
	goes(t, d.Put("p.000000", []byte("junk")), d.Put("p.000001", nil))
	was := d.Copy()
	for _, per := range []int{0, -1, 257, 1000, math.MinInt, math.MaxInt, 1<<32 + 1} {
		if l, err := Open(d, "p", per); l != nil || err != api.ErrArg {
			t.Errorf("Open(d, p, %d): %v, %v", per, l, err)
		}
	}
	alike(t, d, was)
}

func TestP4_1_NamesAndPersThatMayBe(t *testing.T) {
	names := []string{"p", "0", "9", "z", "12345678", "abcdefgh", "a1b2c3d4", "zz"}
	for c := byte('a'); c <= 'z'; c++ {
		names = append(names, string([]byte{c}))
	}
	for c := byte('0'); c <= '9'; c++ {
		names = append(names, string([]byte{c, c}))
	}
	for _, name := range names {
		for _, per := range []int{1, 2, 255, 256} {
			d := room(t, 1<<14)
			l := opened(t, d, name, per)
			has(t, l)
			files(t, l)
			if d.Waits() != 0 {
				t.Errorf("%d wait on a new disk", d.Waits())
			}
			appended(t, l, run(1, 0, per+1)...)
			files(t, l, name+".000000", fmt.Sprintf("%s.%06d", name, per))
			has(t, opened(t, d, name, per), run(1, 0, per+1)...)
		}
	}
}

func TestP4_1_TellsWhatTheFilesHave(t *testing.T) {
	d := room(t, 1000)
	a := []api.Entry{data(1, 5), {Epoch: 1, ID: 2, Num: 7, Seq: 3, Kind: api.EntryData, Value: -9}, {Epoch: 4, ID: 2, Num: 7, Kind: api.EntryCommit}, {Epoch: 4, ID: 0, Num: 1, Kind: api.EntryAbort}, data(9, -1<<31)}
	goes(t, d.Put("p.000000", framed(t, a[:2]...)), d.Put("p.000002", framed(t, a[2:4]...)), d.Put("p.000004", framed(t, a[4:]...)), d.Flush())
	was := d.Copy()
	l := opened(t, d, "p", 2)
	has(t, l, a...)
	sure(t, l, 5)
	files(t, l, "p.000000", "p.000002", "p.000004")
	alike(t, d, was)
}

// mends opens a disk of files, told as name, bytes, name, bytes, and fails if not these entries are told, or if other things than these are done to the disk.
func mends(t *testing.T, per int, had []string, want []api.Entry, things ...func(d *disk.Disk) api.Errno) {
	t.Helper()
	d := room(t, 1<<20)
	for i := 0; i < len(had); i += 2 {
		goes(t, d.Put(had[i], []byte(had[i+1])))
	}
	goes(t, d.Flush())
	mended := d.Copy()
	for _, do := range things {
		goes(t, do(mended))
	}
	l := opened(t, d, "p", per)
	has(t, l, want...)
	sure(t, l, len(want))
	alike(t, d, mended)
	again := opened(t, d, "p", per)
	has(t, again, want...)
	alike(t, d, mended)
}

// cut and gone are things that mending does.
func cut(file string, n int) func(*disk.Disk) api.Errno {
	return func(d *disk.Disk) api.Errno { return d.Cut(file, n) }
}

func gone(file string) func(*disk.Disk) api.Errno {
	return func(d *disk.Disk) api.Errno { return d.Remove(file) }
}

func TestP4_1_Mends(t *testing.T) {
	a := run(3, 1, 6)
	frame := func(i ...int) string {
		s := ""
		for _, n := range i {
			s += string(framed(t, a[n]))
		}
		return s
	}
	low := string(framed(t, data(2, 8)))
	one := len(frame(0))

	// Nothing to mend.
	mends(t, 2, nil, nil)
	mends(t, 2, []string{"p.000000", frame(0)}, a[:1])
	mends(t, 2, []string{"p.000000", frame(0, 1)}, a[:2])
	mends(t, 2, []string{"p.000000", frame(0, 1), "p.000002", frame(2)}, a[:3])
	// Bytes behind frames.
	mends(t, 2, []string{"p.000000", frame(0) + "x"}, a[:1], cut("p.000000", one))
	mends(t, 2, []string{"p.000000", frame(0) + frame(1)[:one-1]}, a[:1], cut("p.000000", one))
	mends(t, 2, []string{"p.000000", frame(0, 1), "p.000002", frame(2) + "\x00\x00\x00\x00\x00"}, a[:3], cut("p.000002", one))
	mends(t, 4, []string{"p.000000", frame(0, 1, 2) + "x" + frame(3)}, a[:3], cut("p.000000", 3*one))
	// No frames.
	mends(t, 2, []string{"p.000000", ""}, nil, gone("p.000000"))
	mends(t, 2, []string{"p.000000", "", "p.000002", frame(0, 1), "p.000004", ""}, nil, gone("p.000000"), gone("p.000004"), gone("p.000002"))
	mends(t, 2, []string{"p.000000", "junk of a file"}, nil, gone("p.000000"))
	mends(t, 2, []string{"p.000000", frame(0, 1), "p.000002", ""}, a[:2], gone("p.000002"))
	mends(t, 2, []string{"p.000000", frame(0, 1), "p.000002", "x" + frame(2)}, a[:2], gone("p.000002"))
	// A segment that is missing, or has fewer than Per, and others behind it.
	mends(t, 2, []string{"p.000002", frame(2, 3)}, nil, gone("p.000002"))
	mends(t, 2, []string{"p.000000", frame(0, 1), "p.000004", frame(4, 5)}, a[:2], gone("p.000004"))
	mends(t, 2, []string{"p.000000", frame(0), "p.000002", frame(1, 2), "p.000004", frame(3)}, a[:1], gone("p.000004"), gone("p.000002"))
	mends(t, 2, []string{"p.000000", "x", "p.000002", frame(1, 2), "p.000004", frame(3)}, nil, gone("p.000000"), gone("p.000004"), gone("p.000002"))
	mends(t, 2, []string{"p.000000", frame(0) + "x", "p.000002", frame(1, 2), "p.000004", frame(3)}, a[:1], cut("p.000000", one), gone("p.000004"), gone("p.000002"))
	// An Epoch that falls within a segment, and from one to the next.
	mends(t, 3, []string{"p.000000", frame(0) + low + frame(1)}, a[:1], cut("p.000000", one))
	mends(t, 2, []string{"p.000000", frame(0, 1), "p.000002", low}, a[:2], gone("p.000002"))
	mends(t, 2, []string{"p.000000", frame(0, 1), "p.000002", frame(2) + low, "p.000004", frame(3)}, a[:3], cut("p.000002", one), gone("p.000004"))
	mends(t, 1, []string{"p.000000", frame(0), "p.000001", low, "p.000002", frame(1)}, a[:1], gone("p.000001"), gone("p.000002"))
	mends(t, 2, []string{"p.000000", low + frame(0), "p.000002", frame(1)}, []api.Entry{data(2, 8), a[0], a[1]})
	// Digits of no segment.
	mends(t, 2, []string{"p.000001", frame(1)}, nil, gone("p.000001"))
	mends(t, 2, []string{"p.000000", frame(0, 1), "p.000001", frame(1), "p.000002", frame(2), "p.000003", "", "p.999999", "x", "p.004096", frame(3), "p.100000", frame(1)},
		a[:3], gone("p.999999"), gone("p.100000"), gone("p.004096"), gone("p.000003"), gone("p.000001"))
	mends(t, 3, []string{"p.000000", frame(0, 1, 2), "p.000002", frame(2), "p.000003", "x", "p.000006", frame(3)}, a[:3], gone("p.000003"), gone("p.000006"), gone("p.000002"))
	// Files that are not the log's.
	others := []string{"p", "x", "p.", "x", "p.00000", frame(0), "p.0000000", frame(0), "p.00000a", frame(0), "p.a00000", frame(0), "p..00000", "", "pp.000000", frame(0), "q.000000", frame(0), "000000", "", ".000000", frame(0), "p000000", "x", "p.000000.", "x", "p.p.000000", "x", "1p.000000", "x"}
	mends(t, 2, others, nil)
	mends(t, 2, append([]string{"p.000000", "junk", "p.000002", frame(0)}, others...), nil, gone("p.000000"), gone("p.000002"))
}

func TestP4_1_MoreThanPerInASegment(t *testing.T) {
	a := run(1, 1, 5)
	low := framed(t, data(1, 3))
	high := data(7, 3)
	// What is behind Per entries tells nothing, and is mended where the log ends alone.
	mends(t, 2, []string{"p.000000", string(framed(t, a[:3]...))}, a[:2])
	mends(t, 2, []string{"p.000000", string(framed(t, a[:2]...)) + "x", "p.000002", string(framed(t, a[2]))}, a[:3])
	mends(t, 2, []string{"p.000000", string(framed(t, a[0], a[1], high)), "p.000002", string(low)}, []api.Entry{a[0], a[1], data(1, 3)})
	mends(t, 2, []string{"p.000000", string(framed(t, a[:4]...)), "p.000002", ""}, a[:2], gone("p.000002"))
	mends(t, 1, []string{"p.000000", string(framed(t, a[:4]...)), "p.000001", string(framed(t, a[1], a[2])), "p.000002", "x"}, a[:2], gone("p.000002"))

	// A log on such files goes on as any.
	d := room(t, 1000)
	goes(t, d.Put("p.000000", framed(t, a[:3]...)), d.Flush())
	l := opened(t, d, "p", 2)
	appended(t, l, a[4])
	files(t, l, "p.000000", "p.000002")
	has(t, opened(t, d, "p", 2), a[0], a[1], a[4])
	goes(t, l.Truncate(1))
	appended(t, l, a[3])
	if b, _ := d.Read("p.000000"); !slices.Equal(b, framed(t, a[0], a[3])) {
		t.Errorf("p.000000 has %x", b)
	}
	has(t, opened(t, d, "p", 2), a[0], a[3])
}

func TestP4_1_LongFrames(t *testing.T) {
	long := api.Entry{Epoch: api.MaxNumber, ID: 3, Num: api.MaxNumber, Seq: api.MaxNumber, Kind: api.EntryData, Value: -1 << 31}
	for _, per := range []int{2, 5, 256} {
		var a []api.Entry
		for range per + 1 {
			a = append(a, long)
		}
		mends(t, per, []string{"p.000000", string(framed(t, a[:per]...)), fmt.Sprintf("p.%06d", per), string(framed(t, long)) + "x"}, a, cut(fmt.Sprintf("p.%06d", per), len(framed(t, long))))
	}
}

func TestP4_1_FilesOfMoreThanMaxLog(t *testing.T) {
	a := run(1, 0, api.MaxLog+300)
	size := func(l []api.Entry) int { return len(framed(t, l...)) }
	for _, per := range []int{1, 3, 100, 256} {
		var had []string
		for first := 0; first < len(a); first += per {
			had = append(had, fmt.Sprintf("p.%06d", first), string(framed(t, a[first:min(first+per, len(a))]...)))
		}
		var things []func(*disk.Disk) api.Errno
		if n := api.MaxLog % per; n > 0 {
			first := api.MaxLog - n
			things = append(things, cut(fmt.Sprintf("p.%06d", first), size(a[first:api.MaxLog])))
		}
		for i := len(had) - 2; had[i] >= fmt.Sprintf("p.%06d", api.MaxLog); i -= 2 {
			things = append(things, gone(had[i]))
		}
		mends(t, per, had, a[:api.MaxLog], things...)
	}
	// The last segment of a full log has all it may: it is where the log ends.
	var had []string
	for first := 0; first < api.MaxLog; first += 256 {
		had = append(had, fmt.Sprintf("p.%06d", first), string(framed(t, a[first:first+256]...)))
	}
	had[len(had)-1] += "x"
	mends(t, 256, append(had, "p.004352", "x", "p.004096", "x"), a[:api.MaxLog], cut("p.003840", size(a[3840:api.MaxLog])), gone("p.004352"), gone("p.004096"))
}

func TestP4_1_LongFilesAreReadInTime(t *testing.T) {
	d := room(t, 1<<24)
	b := framed(t, run(1, 0, 1000)...)
	for d.Put("p.000000", b) == api.OK {
	}
	has(t, opened(t, d, "p", 3), run(1, 0, 3)...)
}

func TestP4_1_ADiskOnWhichSomethingWaits(t *testing.T) {
	a := run(1, 1, 3)
	d := room(t, 1000)
	goes(t, d.Put("p.000000", framed(t, a...)), d.Flush(), d.Put("other", nil))
	l := opened(t, d, "p", 4)
	has(t, l, a...)
	sure(t, l, 0)
	if d.Waits() != 1 {
		t.Error(d.Waits(), "wait, want 1")
	}
	goes(t, l.Flush())
	sure(t, l, 3)
	sure(t, opened(t, d, "p", 4), 3)

	// What was put last waits.
	goes(t, d.Put("p.000000", framed(t, data(2, 9))[:3]))
	sure(t, opened(t, d, "p", 4), 0)
	// That was mended by it, so that something waits now, too.
	if d.Waits() != 2 {
		t.Error(d.Waits(), "wait, want 2")
	}
	goes(t, d.Flush())
	sure(t, opened(t, d, "p", 4), 3)
	if d.Waits() != 0 {
		t.Error(d.Waits(), "wait, want 0")
	}

	// Mending by the opening itself is not what waited.
	goes(t, d.Put("p.000000", []byte("junk")), d.Put("p.000009", nil), d.Flush())
	l = opened(t, d, "p", 4)
	sure(t, l, 3)
	if d.Waits() != 2 {
		t.Error(d.Waits(), "wait, want 2")
	}
	left, _ := d.Crash(api.Crash{})
	has(t, opened(t, left, "p", 4), a...)
}

func TestP4_1_TheDiskIsKept(t *testing.T) {
	d := room(t, 1000)
	l := opened(t, d, "p", 2)
	if l.Disk() != d {
		t.Error("another disk is kept")
	}
	q := opened(t, d, "q", 3)
	a := run(1, 1, 4)
	appended(t, l, a[:3]...)
	appended(t, q, a...)
	if got := d.Names(); !slices.Equal(got, []string{"p.000000", "p.000002", "q.000000", "q.000003"}) {
		t.Errorf("%q", got)
	}
	files(t, l, "p.000000", "p.000002")
	files(t, q, "q.000000", "q.000003")
	has(t, l, a[:3]...)
	has(t, q, a...)
	goes(t, q.Truncate(0), l.Flush())
	files(t, l, "p.000000", "p.000002")
	files(t, q)
	if d.Waits() != 0 {
		t.Error("the disk was not flushed")
	}
	sure(t, l, 3)
	sure(t, q, 0)
}

func TestP4_1_TheNameIsNotKept(t *testing.T) {
	b := []byte("p")
	d := room(t, 100)
	l := opened(t, d, string(b), 2)
	b[0] = 'q'
	appended(t, l, data(1, 1))
	files(t, l, "p.000000")
}

func TestP4_2_NoLogIsErrNil(t *testing.T) {
	for _, l := range noLogs() {
		for _, entries := range [][]api.Entry{nil, {data(1, 1)}, {{}}} {
			if n, err := l.Append(entries...); n != 0 || err != api.ErrNil {
				t.Error(n, err)
			}
		}
		for _, n := range []int{0, 1, -1, math.MaxInt} {
			is(t, l.Truncate(n), api.ErrNil)
		}
		is(t, l.Flush(), api.ErrNil)
		if l.made() {
			t.Error("there is a log now")
		}
	}
}

func TestP4_2_AppendPutsFrames(t *testing.T) {
	d := room(t, 1000)
	want := d.Copy()
	l := opened(t, d, "log", 3)
	a := []api.Entry{data(1, 5), {Epoch: 1, ID: 2, Num: 7, Seq: 3, Kind: api.EntryData, Value: -9}, {Epoch: 4, ID: 2, Num: 7, Kind: api.EntryCommit}, {Epoch: 4, ID: 0, Num: 1, Kind: api.EntryAbort}, data(9, -1<<31)}
	appended(t, l)
	alike(t, d, want)
	for i, e := range a {
		goes(t, want.Put([]string{"log.000000", "log.000003"}[i/3], framed(t, e)))
	}
	appended(t, l, a[:2]...)
	appended(t, l, a[2:]...)
	has(t, l, a...)
	alike(t, d, want)
	if d.Waits() != 5 {
		t.Error(d.Waits(), "wait, want one a frame")
	}
}

func TestP4_2_AppendFillsSegments(t *testing.T) {
	for _, per := range []int{1, 2, 7, 255, 256} {
		l := opened(t, room(t, 1<<16), "p", per)
		appended(t, l, run(1, 0, per)...)
		files(t, l, "p.000000")
		appended(t, l, data(1, 0))
		files(t, l, "p.000000", fmt.Sprintf("p.%06d", per))
		appended(t, l, run(1, 0, 2*per-1)...)
		files(t, l, "p.000000", fmt.Sprintf("p.%06d", per), fmt.Sprintf("p.%06d", 2*per))
	}
}

func TestP4_2_AppendRefusesEntriesThatMayNotBe(t *testing.T) {
	ok := data(5, 1)
	wrong := []api.Entry{{}, {Epoch: 5, ID: -1}, {Epoch: 5, ID: -2, Kind: api.EntryData}, {Epoch: 0, ID: -1, Kind: api.EntryData}, {Epoch: 5, ID: -1, Kind: 4}, {Epoch: 5, ID: 4, Num: 1, Kind: api.EntryData}, {Epoch: 5, ID: -1, Kind: api.EntryCommit}, {Epoch: 5, ID: -1, Kind: api.EntryData, Value: 1 << 31}, {Epoch: api.MaxNumber + 1, ID: -1, Kind: api.EntryData}, {Epoch: 1, ID: -1, Num: 1, Kind: api.EntryData}}
	for _, e := range wrong {
		l := opened(t, room(t, 1000), "p", 2)
		if n, err := l.Append(e, ok); n != 0 || err != api.ErrArg {
			t.Errorf("Append(%v): %d, %v", e, n, err)
		}
		files(t, l)
		if n, err := l.Append(ok, ok, ok, e, ok); n != 3 || err != api.ErrArg {
			t.Errorf("Append(%v): %d, %v", e, n, err)
		}
		has(t, l, ok, ok, ok)
		files(t, l, "p.000000", "p.000002")
		if l.Disk().Waits() != 3 {
			t.Error(l.Disk().Waits(), "wait")
		}
	}
}

func TestP4_2_AppendRefusesAnEpochThatFalls(t *testing.T) {
	l := opened(t, room(t, 1000), "p", 2)
	if n, err := l.Append(data(3, 1), data(3, 2), data(2, 3), data(4, 4)); n != 2 || err != api.ErrFalls {
		t.Error(n, err)
	}
	has(t, l, data(3, 1), data(3, 2))
	files(t, l, "p.000000")
	if n, err := l.Append(data(1, 1)); n != 0 || err != api.ErrFalls {
		t.Error(n, err)
	}
	appended(t, l, data(3, 5), data(api.MaxNumber, 6), data(api.MaxNumber, 7))
	if n, err := l.Append(data(api.MaxNumber-1, 1)); n != 0 || err != api.ErrFalls {
		t.Error(n, err)
	}
	// An entry that is gone does not count.
	goes(t, l.Truncate(3))
	appended(t, l, data(4, 8))
	goes(t, l.Truncate(0))
	appended(t, l, data(1, 9))
	has(t, l, data(1, 9))
	// Neither does one of a log that was opened anew, and of another log.
	if n, err := opened(t, l.Disk(), "q", 2).Append(data(1, 1)); n != 1 || err != api.OK {
		t.Error(n, err)
	}
	l = opened(t, l.Disk(), "p", 2)
	appended(t, l, data(2, 2))
	if n, err := l.Append(data(1, 3)); n != 0 || err != api.ErrFalls {
		t.Error(n, err)
	}
}

func TestP4_2_AppendUpToMaxLog(t *testing.T) {
	for _, per := range []int{1, 3, 256} {
		d := room(t, 1<<20)
		l := opened(t, d, "p", per)
		if n, err := l.Append(run(2, 0, api.MaxLog+1)...); n != api.MaxLog || err != api.ErrLong {
			t.Error(n, err)
		}
		last := fmt.Sprintf("p.%06d", (api.MaxLog-1)/per*per)
		if f := l.Files(); f[len(f)-1] != last || d.Waits() != api.MaxLog {
			t.Error(f[len(f)-1], d.Waits())
		}
		was := d.Copy()
		for _, e := range []api.Entry{data(2, 1), data(1, 1)} {
			if n, err := l.Append(e); n != 0 || err != api.ErrLong {
				t.Error(n, err)
			}
		}
		if n, err := l.Append(api.Entry{}); n != 0 || err != api.ErrArg {
			t.Error(n, err)
		}
		appended(t, l)
		alike(t, d, was)
		has(t, l, run(2, 0, api.MaxLog)...)
		has(t, opened(t, d, "p", per), run(2, 0, api.MaxLog)...)
		alike(t, d, was)
		goes(t, l.Truncate(api.MaxLog-1))
		appended(t, l, data(2, 7))
		if n, err := l.Append(data(2, 1)); n != 0 || err != api.ErrLong {
			t.Error(n, err)
		}
	}
}

func TestP4_2_AppendAsLongAsThereIsRoom(t *testing.T) {
	one := len(framed(t, data(1, 1)))
	d := room(t, 3*one+1)
	l := opened(t, d, "p", 2)
	if n, err := l.Append(run(1, 1, 5)...); n != 3 || err != api.ErrRoom {
		t.Error(n, err)
	}
	has(t, l, run(1, 1, 3)...)
	was := d.Copy()
	if n, err := l.Append(data(1, 1)); n != 0 || err != api.ErrRoom {
		t.Error(n, err)
	}
	alike(t, d, was)
	// Where something else is wrong too, that is told.
	appended(t, l)
	if n, err := l.Append(api.Entry{}); n != 0 || err != api.ErrArg {
		t.Error(n, err)
	}
	goes(t, l.Truncate(0))
	appended(t, l, data(2, 1), data(2, 1), data(2, 1))
	if n, err := l.Append(data(1, 1)); n != 0 || err != api.ErrFalls {
		t.Error(n, err)
	}
	goes(t, l.Truncate(2))
	appended(t, l, data(2, 1))

	d = room(t, one-1)
	l = opened(t, d, "p", 2)
	if n, err := l.Append(data(1, 1)); n != 0 || err != api.ErrRoom {
		t.Error(n, err)
	}
	files(t, l)
	has(t, l)
}

func TestP4_2_AppendKeepsNothingThatIsHandedIn(t *testing.T) {
	all := run(1, 1, 5)
	l := opened(t, room(t, 1000), "p", 2)
	appended(t, l, all[:3]...)
	appended(t, l, data(1, 9))
	if !slices.Equal(all, run(1, 1, 5)) {
		t.Error("what was handed in was changed:", all)
	}
	all[0] = data(7, 7)
	has(t, l, data(1, 1), data(1, 2), data(1, 3), data(1, 9))
}

func TestP4_2_TruncateRefuses(t *testing.T) {
	d := room(t, 1000)
	l := opened(t, d, "p", 2)
	is(t, l.Truncate(-1), api.ErrRange)
	is(t, l.Truncate(1), api.ErrRange)
	goes(t, l.Truncate(0))
	if d.Waits() != 0 {
		t.Error(d.Waits(), "wait")
	}
	appended(t, l, run(1, 1, 3)...)
	goes(t, l.Flush())
	was := d.Copy()
	for _, n := range []int{-1, 4, math.MinInt, math.MaxInt, -3, 1 << 32} {
		is(t, l.Truncate(n), api.ErrRange)
	}
	has(t, l, run(1, 1, 3)...)
	sure(t, l, 3)
	alike(t, d, was)
}

func TestP4_2_TruncateRemovesAndCuts(t *testing.T) {
	one := len(framed(t, data(1, 1)))
	a := run(1, 1, 9)
	file := func(first int) string { return fmt.Sprintf("p.%06d", first) }
	for _, c := range []struct {
		per, len, n int
		things      []func(*disk.Disk) api.Errno
	}{
		{4, 9, 9, nil},
		{4, 9, 8, []func(*disk.Disk) api.Errno{gone(file(8))}},
		{4, 9, 7, []func(*disk.Disk) api.Errno{gone(file(8)), cut(file(4), 3*one)}},
		{4, 9, 5, []func(*disk.Disk) api.Errno{gone(file(8)), cut(file(4), one)}},
		{4, 9, 4, []func(*disk.Disk) api.Errno{gone(file(8)), gone(file(4))}},
		{4, 9, 3, []func(*disk.Disk) api.Errno{gone(file(8)), gone(file(4)), cut(file(0), 3*one)}},
		{4, 9, 1, []func(*disk.Disk) api.Errno{gone(file(8)), gone(file(4)), cut(file(0), one)}},
		{4, 9, 0, []func(*disk.Disk) api.Errno{gone(file(8)), gone(file(4)), gone(file(0))}},
		{4, 8, 8, nil},
		{4, 8, 4, []func(*disk.Disk) api.Errno{gone(file(4))}},
		{4, 7, 7, nil},
		{4, 7, 6, []func(*disk.Disk) api.Errno{cut(file(4), 2*one)}},
		{1, 3, 1, []func(*disk.Disk) api.Errno{gone(file(2)), gone(file(1))}},
		{256, 9, 8, []func(*disk.Disk) api.Errno{cut(file(0), 8*one)}},
		{256, 9, 0, []func(*disk.Disk) api.Errno{gone(file(0))}},
	} {
		d := room(t, 1000)
		l := opened(t, d, "p", c.per)
		appended(t, l, a[:c.len]...)
		want := d.Copy()
		for _, do := range c.things {
			goes(t, do(want))
		}
		goes(t, l.Truncate(c.n))
		has(t, l, a[:c.n]...)
		alike(t, d, want)
		has(t, opened(t, d, "p", c.per), a[:c.n]...)
		alike(t, d, want)
		appended(t, l, data(2, 7), data(2, 8))
		has(t, opened(t, d, "p", c.per), append(slices.Clone(a[:c.n]), data(2, 7), data(2, 8))...)
	}
}

func TestP4_2_FlushLetsAllLast(t *testing.T) {
	d := room(t, 1000)
	l := opened(t, d, "p", 2)
	goes(t, l.Flush())
	a := run(1, 1, 3)
	appended(t, l, a...)
	goes(t, d.Put("other", []byte("x")), l.Flush())
	if d.Waits() != 0 {
		t.Error(d.Waits(), "wait")
	}
	appended(t, l, data(1, 9))
	left, _ := d.Crash(api.Crash{})
	has(t, opened(t, left, "p", 2), a...)
	if b, err := left.Lasts("other"); string(b) != "x" || err != api.OK {
		t.Error(b, err)
	}
}

func TestP4_3_NoLogAnswersNothing(t *testing.T) {
	for _, l := range noLogs() {
		if l.Len() != 0 || l.All() != nil || l.Sure() != 0 || l.Files() != nil || l.Disk() != nil || l.Copy() != nil {
			t.Error(l.Len(), l.All(), l.Sure(), l.Files(), l.Disk(), l.Copy())
		}
		for _, i := range []int{0, 1, -1, math.MinInt, math.MaxInt} {
			if e, err := l.Get(i); e != (api.Entry{}) || err != api.ErrNil {
				t.Error(e, err)
			}
			all := l.From(i)
			if all == nil {
				t.Fatal("no iterator")
			}
			for n, e := range all {
				t.Error(n, e)
			}
		}
	}
}

func TestP4_3_GetRefuses(t *testing.T) {
	l := opened(t, room(t, 1000), "p", 2)
	appended(t, l, run(1, 1, 3)...)
	for _, i := range []int{-1, 3, 4, math.MinInt, math.MaxInt, 1 << 32} {
		if e, err := l.Get(i); e != (api.Entry{}) || err != api.ErrRange {
			t.Errorf("Get(%d): %v, %v", i, e, err)
		}
	}
	goes(t, l.Truncate(2))
	if e, err := l.Get(2); e != (api.Entry{}) || err != api.ErrRange {
		t.Error(e, err)
	}
	has(t, l, run(1, 1, 2)...)
	if e, err := opened(t, room(t, 10), "p", 1).Get(0); e != (api.Entry{}) || err != api.ErrRange {
		t.Error(e, err)
	}
}

func TestP4_3_AllIsNewMemory(t *testing.T) {
	l := opened(t, room(t, 1000), "p", 2)
	a := run(1, 1, 3)
	appended(t, l, a...)
	one, two := l.All(), l.All()
	one[0] = data(9, 9)
	_ = append(one, data(9, 9))
	_ = append(one[:1], data(9, 9))
	if !slices.Equal(two, a) {
		t.Error("two answers share memory:", two)
	}
	has(t, l, a...)
	goes(t, l.Truncate(0))
	appended(t, l, data(5, 5))
	if !slices.Equal(two, a) {
		t.Error("an answer was changed by the log:", two)
	}
}

// gather is what an iterator tells.
func gather(seq func(func(int, api.Entry) bool)) (numbers []int, entries []api.Entry) {
	for i, e := range seq {
		numbers, entries = append(numbers, i), append(entries, e)
	}
	return numbers, entries
}

func TestP4_3_FromANumberOn(t *testing.T) {
	l := opened(t, room(t, 1000), "p", 2)
	a := run(1, 1, 5)
	appended(t, l, a...)
	for _, c := range []struct{ from, first int }{{0, 0}, {1, 1}, {3, 3}, {4, 4}, {5, 5}, {6, 5}, {math.MaxInt, 5}, {-1, 0}, {-5, 0}, {math.MinInt, 0}, {1 << 32, 5}} {
		seq := l.From(c.from)
		for range 2 {
			numbers, entries := gather(seq)
			if !slices.Equal(entries, a[c.first:]) || !slices.Equal(numbers, []int{0, 1, 2, 3, 4}[c.first:]) {
				t.Errorf("From(%d): %v, %v", c.from, numbers, entries)
			}
		}
	}
	if numbers, _ := gather(opened(t, room(t, 10), "p", 2).From(0)); numbers != nil {
		t.Error(numbers)
	}
}

func TestP4_3_FromMayBeLeft(t *testing.T) {
	l := opened(t, room(t, 1000), "p", 2)
	a := run(1, 1, 5)
	appended(t, l, a...)
	seq := l.From(1)
	for stop := range 4 {
		var got []api.Entry
		seq(func(i int, e api.Entry) bool {
			got = append(got, e)
			return len(got) <= stop
		})
		if !slices.Equal(got, a[1:2+stop]) {
			t.Errorf("left at %d: %v", stop, got)
		}
	}
	// Two at a time.
	n := 0
	for i := range seq {
		for j := range seq {
			if n++; j > i {
				break
			}
		}
	}
	if n != 2+3+4+4 {
		t.Error(n)
	}
}

func TestP4_3_FromIsAsItWas(t *testing.T) {
	l := opened(t, room(t, 1000), "p", 2)
	a := run(1, 1, 5)
	appended(t, l, a...)
	seq := l.From(1)
	goes(t, l.Truncate(2))
	if _, entries := gather(seq); !slices.Equal(entries, a[1:]) {
		t.Error("truncated:", entries)
	}
	appended(t, l, data(2, 7), data(2, 8), data(2, 9), data(2, 10))
	if _, entries := gather(seq); !slices.Equal(entries, a[1:]) {
		t.Error("written over:", entries)
	}
	// What is done while it is gone over.
	var got []api.Entry
	for _, e := range l.From(0) {
		got = append(got, e)
		if len(got) == 1 {
			goes(t, l.Truncate(0))
		}
		appended(t, l, data(9, 9))
	}
	if !slices.Equal(got, append(a[:2:2], data(2, 7), data(2, 8), data(2, 9), data(2, 10))) {
		t.Error(got)
	}
}

func TestP4_3_Sure(t *testing.T) {
	l := opened(t, room(t, 1000), "p", 2)
	sure(t, l, 0)
	appended(t, l, run(1, 1, 3)...)
	sure(t, l, 0)
	goes(t, l.Flush())
	sure(t, l, 3)
	appended(t, l, run(1, 1, 2)...)
	sure(t, l, 3)
	goes(t, l.Truncate(4))
	sure(t, l, 3)
	goes(t, l.Truncate(3))
	sure(t, l, 3)
	goes(t, l.Truncate(1))
	sure(t, l, 1)
	appended(t, l, run(1, 1, 3)...)
	sure(t, l, 1)
	goes(t, l.Flush())
	sure(t, l, 4)
	goes(t, l.Truncate(0))
	sure(t, l, 0)
	goes(t, l.Flush())
	sure(t, l, 0)
}

func TestP4_3_FilesAreTheLogsInOrder(t *testing.T) {
	d := room(t, 1000)
	goes(t, d.Put("a.000000", nil), d.Put("p.00000x", nil), d.Put("p", nil), d.Put("pp.000000", nil), d.Flush())
	l := opened(t, d, "p", 1)
	files(t, l)
	appended(t, l, run(1, 1, 11)...)
	want := []string{"p.000000", "p.000001", "p.000002", "p.000003", "p.000004", "p.000005", "p.000006", "p.000007", "p.000008", "p.000009", "p.000010"}
	files(t, l, want...)
	one := l.Files()
	one[0] = "q"
	files(t, l, want...)
	// They are the disk's, whatever their digits.
	goes(t, d.Put("p.999999", nil))
	files(t, l, append(want, "p.999999")...)
}

func TestP4_3_CopiesGoOnApart(t *testing.T) {
	d := room(t, 1000)
	l := opened(t, d, "p", 2)
	a := run(1, 1, 5)
	appended(t, l, a[:3]...)
	goes(t, l.Flush())
	appended(t, l, a[3:]...)
	c := l.Copy()
	if c == nil || c == l || c.Disk() == d || c.Disk() == nil {
		t.Fatal("no copy")
	}
	has(t, c, a...)
	sure(t, c, 3)
	alike(t, c.Disk(), d)
	files(t, c, l.Files()...)

	was := d.Copy()
	goes(t, c.Truncate(1))
	appended(t, c, data(2, 7), data(2, 8))
	goes(t, c.Flush())
	has(t, l, a...)
	sure(t, l, 3)
	alike(t, d, was)
	has(t, c, a[0], data(2, 7), data(2, 8))
	sure(t, c, 3)

	was = c.Disk().Copy()
	goes(t, l.Truncate(0), l.Flush())
	appended(t, l, data(1, 1))
	has(t, c, a[0], data(2, 7), data(2, 8))
	alike(t, c.Disk(), was)
	files(t, c, "p.000000", "p.000002")
}

func TestP4_4_Examples(t *testing.T) {
	d := room(t, 1000)
	l := opened(t, d, "p", 2)
	a := run(1, 1, 4)
	appended(t, l, a[:3]...)
	goes(t, l.Truncate(1), l.Flush())
	appended(t, l, a[3])
	left, _ := d.Crash(api.Crash{Keep: 0, Torn: 3})
	m := opened(t, left, "p", 2)
	has(t, m, a[0])
	files(t, m, "p.000000")
	if left.Waits() != 1 {
		t.Error(left.Waits(), "wait, want what was mended")
	}
}

// begins tells whether a is a beginning of b.
func begins(a, b []api.Entry) bool { return len(a) <= len(b) && slices.Equal(a, b[:len(a)]) }

// survives fails if what a crash left is not what P4.4 promises: told which entries the log had since its last flush, one time behind the other.
func survives(t *testing.T, left *disk.Disk, l *Log, had [][]api.Entry) *Log {
	t.Helper()
	p := plainly(left, l.name, l.per)
	again := opened(t, left, l.name, l.per)
	p.matches(t, again)
	got := again.All()
	if len(got) < l.Sure() || !begins(l.All()[:l.Sure()], got) {
		t.Fatalf("%v, and %d were sure of %v", got, l.Sure(), l.All())
	}
	if !slices.ContainsFunc(had, func(h []api.Entry) bool { return begins(got, h) }) {
		t.Fatalf("%v is a beginning of none of %v", got, had)
	}
	// Opened once more, as it is and behind crashes, nothing is mended.
	was := left.Copy()
	has(t, opened(t, left, l.name, l.per), got...)
	alike(t, left, was)
	for keep := range left.Waits() + 1 {
		less, _ := left.Crash(api.Crash{Keep: keep})
		has(t, opened(t, less, l.name, l.per), got...)
		if keep == left.Waits() && less.Waits() != 0 {
			t.Fatal("what was mended is mended again")
		}
	}
	return again
}

func TestP4_4_EachCrash(t *testing.T) {
	var m mixed
	for range 60 {
		l := opened(t, room(t, 1<<12), "p", 1+m.below(4))
		had := [][]api.Entry{nil}
		epoch := int64(1)
		for range 30 {
			switch m.below(6) {
			case 0, 1, 2:
				epoch += int64(m.below(2))
				for range m.below(4) {
					appended(t, l, m.entry(epoch))
					had = append(had, l.All())
				}
			case 3, 4:
				goes(t, l.Truncate(max(0, l.Len()-m.below(6))))
				had = append(had, l.All())
			case 5:
				goes(t, l.Flush())
				had = [][]api.Entry{l.All()}
			}
			keep, torn := m.below(1000)-500, m.below(1000)-500
			left, _ := l.Disk().Crash(api.Crash{Keep: keep, Torn: torn})
			survives(t, left, l, had)
		}
		for keep := range l.Disk().Waits() + 1 {
			for torn := range api.MaxFrame {
				left, _ := l.Disk().Crash(api.Crash{Keep: keep, Torn: torn})
				survives(t, left, l, had)
			}
		}
	}
}

func TestP4_4_CrashBehindCrash(t *testing.T) {
	var m mixed
	m.below(1)
	for range 40 {
		l := opened(t, room(t, 1<<12), "x1", 1+m.below(5))
		epoch := int64(1)
		for range 20 {
			had := [][]api.Entry{l.All()}
			for range m.below(5) {
				switch m.below(4) {
				case 0, 1:
					epoch += int64(m.below(2))
					appended(t, l, m.entry(epoch))
				case 2:
					goes(t, l.Truncate(m.below(l.Len()+1)))
				case 3:
					goes(t, l.Flush())
					had = nil
				}
				had = append(had, l.All())
			}
			left, _ := l.Disk().Crash(api.Crash{Keep: m.below(20), Torn: m.below(50)})
			l = survives(t, left, l, had)
			sure(t, l, l.Len())
		}
	}
}

// scattered is a disk with files that may be a log's, or nearly.
func (m *mixed) scattered(t *testing.T, name string, per int) *disk.Disk {
	t.Helper()
	d := room(t, 1<<16)
	epoch := int64(1)
	for i := range m.below(6) {
		file := fmt.Sprintf("%s.%06d", name, i*per)
		if m.below(12) == 0 {
			continue
		}
		goes(t, d.Put(file, nil))
		n := per
		if m.below(5) == 0 {
			n = m.below(per + 2)
		}
		for range n {
			epoch += int64(m.below(2))
			e := epoch
			if m.below(15) == 0 {
				e = int64(1 + m.below(int(epoch)))
			}
			b := framed(t, m.entry(e))
			if m.below(30) == 0 {
				b[m.below(len(b))] ^= 1 << m.below(8)
			}
			goes(t, d.Put(file, b))
		}
		if m.below(5) == 0 {
			goes(t, d.Put(file, []byte("junk of a file")[:m.below(14)]))
		}
	}
	for range m.below(4) {
		goes(t, d.Put(fmt.Sprintf("%s.%06d", name, m.below(1000000)), framed(t, data(1, 1))))
		goes(t, d.Put(fmt.Sprintf("%s.%06d", name, m.below(8)), nil))
		goes(t, d.Put(fmt.Sprintf("%s%d.%05d", name, m.below(3), m.below(100000)), nil))
	}
	if m.below(3) > 0 {
		goes(t, d.Flush())
	}
	return d
}

func TestP4_1to4_LikeThePlainWay(t *testing.T) {
	var m mixed
	m.below(2)
	for range 600 {
		per := 1 + m.below(4)
		d := m.scattered(t, "p", per)
		p := plainly(d, "p", per)
		l := opened(t, d, "p", per)
		p.matches(t, l)
		has(t, opened(t, d, "p", per), p.l...)
		p.matches(t, l)
		epoch := int64(1)
		for range 12 {
			switch m.below(4) {
			case 0, 1:
				var entries []api.Entry
				for range m.below(5) {
					epoch += int64(m.below(4)) - 1
					entries = append(entries, m.entry(epoch))
				}
				n, err := l.Append(entries...)
				if wantN, wantErr := p.add(entries...); n != wantN || err != wantErr {
					t.Fatalf("Append(%v): %d, %v, want %d, %v", entries, n, err, wantN, wantErr)
				}
			case 2:
				n := m.below(len(p.l)+3) - 1
				if err, want := l.Truncate(n), p.truncate(n); err != want {
					t.Fatalf("Truncate(%d): %v, want %v", n, err, want)
				}
			case 3:
				goes(t, l.Flush())
				p.flush()
			}
			p.matches(t, l)
			if m.below(10) == 0 {
				l = l.Copy()
			}
		}
	}
}

func TestP4_2_AndBesides(t *testing.T) {
	// Nothing is promised where someone else does something to the files; but each call ends and answers.
	d := room(t, 1000)
	l := opened(t, d, "p", 2)
	appended(t, l, run(1, 1, 5)...)
	goes(t, d.Remove("p.000004"))
	is(t, l.Truncate(1), api.ErrNone)
	goes(t, d.Put("p.000004", nil), d.Cut("p.000000", 0))
	is(t, l.Truncate(1), api.ErrRange)
	goes(t, l.Flush())
	appended(t, l, data(1, 1))
}
