package wire

import (
	"bytes"
	"hash/crc32"
	"math"
	"slices"
	"testing"

	"waystation/api"
)

// mixed tells numbers that look mixed and are the same in each run.
type mixed uint64

func (m *mixed) next() uint64 {
	*m = *m*6364136223846793005 + 1442695040888963407
	return uint64(*m >> 33)
}

func (m *mixed) below(n int) int { return int(m.next() % uint64(n)) }

// plainNumber is a number's bytes by dividing, as a second way to them.
func plainNumber(n uint64) []byte {
	if n < 128 {
		return []byte{byte(n)}
	}
	return append([]byte{byte(n%128 + 128)}, plainNumber(n/128)...)
}

// plainSigned is a number with a sign as one without.
func plainSigned(n int64) uint64 {
	if n < 0 {
		return uint64(-n)*2 - 1
	}
	return uint64(n) * 2
}

// plainTake reads by looking for the last byte first, and by writing again what it has read.
func plainTake(b []byte) (int64, int, api.Errno) {
	last := slices.IndexFunc(b, func(x byte) bool { return x < 128 })
	if last > 8 || last < 0 && len(b) >= 9 {
		return 0, 0, api.ErrBody
	}
	if last < 0 {
		return 0, 0, api.ErrShort
	}
	var n uint64
	for i := last; i >= 0; i-- {
		n = n*128 + uint64(b[i]%128)
	}
	if !bytes.Equal(plainNumber(n), b[:last+1]) {
		return 0, 0, api.ErrBody
	}
	return int64(n), last + 1, api.OK
}

// plainMay is the document's rule for entries, word by word.
func plainMay(e api.Entry) bool {
	mark := e.Kind == api.EntryCommit || e.Kind == api.EntryAbort
	switch {
	case e.Kind != api.EntryData && !mark, e.Epoch < 1, e.Epoch > 2147483647, e.ID < -1, e.ID > 3, mark && e.ID < 0:
		return false
	case e.ID < 0 && (e.Num != 0 || e.Seq != 0), e.ID >= 0 && (e.Num < 1 || e.Num > 2147483647):
		return false
	case e.Seq < 0, e.Seq > 2147483647, mark && e.Seq != 0, mark && e.Value != 0:
		return false
	}
	return e.Value >= -2147483648 && e.Value <= 2147483647
}

// plainBody is the body of an entry that may be.
func plainBody(e api.Entry) []byte {
	parts := [][]byte{{byte(e.Kind)}, plainNumber(uint64(e.Epoch)), {byte(e.ID + 1)}, nil, nil, nil}
	if e.ID >= 0 {
		parts[3] = plainNumber(uint64(e.Num))
	}
	if e.ID >= 0 && e.Kind == api.EntryData {
		parts[4] = plainNumber(uint64(e.Seq))
	}
	if e.Kind == api.EntryData {
		parts[5] = plainNumber(plainSigned(e.Value))
	}
	return slices.Concat(parts...)
}

// framed puts a head of the right sum and size ahead of any body.
func framed(body []byte) []byte {
	sum := crc32.Checksum(body, crc32.MakeTable(crc32.Castagnoli))
	return append([]byte{byte(sum), byte(sum >> 8), byte(sum >> 16), byte(sum >> 24), byte(len(body))}, body...)
}

// plainEntry reads a body loosely, and takes it only if it is just what the entry's own body would be.
func plainEntry(body []byte) (api.Entry, api.Errno) {
	none := func() (api.Entry, api.Errno) { return api.Entry{}, api.ErrBody }
	if len(body) < 3 {
		return none()
	}
	e := api.Entry{Kind: api.EntryKind(body[0])}
	rest := body[1:]
	cut := func() int64 {
		n, size, err := plainTake(rest)
		if err != api.OK {
			n, size = -1, len(rest)
		}
		rest = rest[size:]
		return n
	}
	e.Epoch = cut()
	if len(rest) == 0 {
		return none()
	}
	e.ID, rest = int(rest[0])-1, rest[1:]
	if e.ID >= 0 {
		e.Num = cut()
	}
	if e.ID >= 0 && e.Kind == api.EntryData {
		e.Seq = cut()
	}
	if e.Kind == api.EntryData {
		n := cut()
		e.Value = n / 2
		if n%2 == 1 {
			e.Value = -1 - n/2
		}
	}
	if !plainMay(e) || !bytes.Equal(plainBody(e), body) {
		return none()
	}
	return e, api.OK
}

// plainRead is the document's order of errors.
func plainRead(b []byte) (api.Entry, int, api.Errno) {
	if len(b) < 5 {
		return api.Entry{}, 0, api.ErrShort
	}
	size := int(b[4])
	if size == 0 || size > 35 {
		return api.Entry{}, 0, api.ErrBody
	}
	if len(b) < 5+size {
		return api.Entry{}, 0, api.ErrShort
	}
	if !bytes.Equal(framed(b[5 : 5+size])[:4], b[:4]) {
		return api.Entry{}, 0, api.ErrSum
	}
	e, err := plainEntry(b[5 : 5+size])
	if err != api.OK {
		return api.Entry{}, 0, err
	}
	return e, 5 + size, api.OK
}

// numbers are those at which bytes grow, with their neighbours.
func numbers() []int64 {
	list := []int64{0, 1, 2, 300, math.MaxInt64, math.MaxInt64 - 1, api.MaxNumber, api.MaxNumber + 1}
	for bits := 1; bits < 63; bits++ {
		n := int64(1) << bits
		list = append(list, n-1, n, n+1)
	}
	m := mixed(3)
	for range 500 {
		list = append(list, int64(m.next()<<31^m.next())>>(m.below(62)))
	}
	return list
}

// somebodys are entries that may be, at all edges.
func somebodys() []api.Entry {
	var list []api.Entry
	bounds := []int64{1, 2, 127, 128, 16384, api.MaxNumber - 1, api.MaxNumber}
	for _, epoch := range bounds {
		for _, value := range []int64{0, 1, -1, -2, 63, 64, -64, -65, 1<<31 - 1, -1 << 31} {
			list = append(list, api.Entry{Epoch: epoch, ID: -1, Kind: api.EntryData, Value: value})
			for id := range api.MaxIDs {
				num := bounds[(id+len(list))%len(bounds)]
				seq := bounds[(id+2*len(list))%len(bounds)] - int64(id%2)
				list = append(list, api.Entry{Epoch: epoch, ID: id, Num: num, Seq: seq, Kind: api.EntryData, Value: value})
			}
		}
		for id := range api.MaxIDs {
			for _, num := range bounds {
				list = append(list, api.Entry{Epoch: epoch, ID: id, Num: num, Kind: api.EntryCommit}, api.Entry{Epoch: epoch, ID: id, Num: num, Kind: api.EntryAbort})
			}
		}
	}
	return list
}

// longest has the longest frame that an entry can have.
func longest() api.Entry {
	return api.Entry{Epoch: api.MaxNumber, ID: 3, Num: api.MaxNumber, Seq: api.MaxNumber, Kind: api.EntryData, Value: -1 << 31}
}

func TestP2_1_NumbersOfRows(t *testing.T) {
	rows := []struct {
		n    int64
		want []byte
	}{
		{0, []byte{0}}, {1, []byte{1}}, {127, []byte{127}}, {128, []byte{128, 1}}, {300, []byte{0xac, 2}},
		{16383, []byte{255, 127}}, {16384, []byte{128, 128, 1}},
		{math.MaxInt64, []byte{255, 255, 255, 255, 255, 255, 255, 255, 127}},
		{1 << 56, []byte{128, 128, 128, 128, 128, 128, 128, 128, 1}},
	}
	for _, r := range rows {
		if b, err := Number(r.n); !bytes.Equal(b, r.want) || err != api.OK {
			t.Errorf("Number(%d) = %x, %v", r.n, b, err)
		}
		if n, size, err := Take(r.want); n != r.n || size != len(r.want) || err != api.OK {
			t.Errorf("Take(%x) = %d, %d, %v", r.want, n, size, err)
		}
	}
}

func TestP2_1_SignedOfRows(t *testing.T) {
	top := []byte{255, 255, 255, 255, 255, 255, 255, 255, 127}
	under := append([]byte{254}, top[1:]...)
	rows := []struct {
		n    int64
		want []byte
	}{
		{0, []byte{0}}, {-1, []byte{1}}, {1, []byte{2}}, {-2, []byte{3}}, {63, []byte{126}}, {-64, []byte{127}}, {64, []byte{128, 1}},
		{-1 << 62, top}, {1<<62 - 1, under},
	}
	for _, r := range rows {
		if b, err := Signed(r.n); !bytes.Equal(b, r.want) || err != api.OK {
			t.Errorf("Signed(%d) = %x, %v", r.n, b, err)
		}
		if n, size, err := TakeSigned(r.want); n != r.n || size != len(r.want) || err != api.OK {
			t.Errorf("TakeSigned(%x) = %d, %d, %v", r.want, n, size, err)
		}
	}
}

func TestP2_1_NumbersByASecondWay(t *testing.T) {
	for _, n := range numbers() {
		if b, err := Number(n); !bytes.Equal(b, plainNumber(uint64(n))) || err != api.OK {
			t.Errorf("Number(%d) = %x, %v", n, b, err)
		}
		for _, s := range []int64{n, -n} {
			if s < -1<<62 || s > 1<<62-1 {
				continue
			}
			if b, err := Signed(s); !bytes.Equal(b, plainNumber(plainSigned(s))) || err != api.OK {
				t.Errorf("Signed(%d) = %x, %v", s, b, err)
			}
		}
	}
}

func TestP2_1_NumbersThatMayNotBe(t *testing.T) {
	for _, n := range []int64{-1, -2, -300, -1 << 31, -1 << 62, math.MinInt64, math.MinInt64 + 1} {
		if b, err := Number(n); len(b) != 0 || err != api.ErrArg {
			t.Errorf("Number(%d) = %x, %v", n, b, err)
		}
	}
	for _, n := range []int64{1 << 62, 1<<62 + 1, math.MaxInt64, -1<<62 - 1, -1<<62 - 2, math.MinInt64} {
		if b, err := Signed(n); len(b) != 0 || err != api.ErrArg {
			t.Errorf("Signed(%d) = %x, %v", n, b, err)
		}
	}
}

// takes asks Take and TakeSigned of b and holds them against the second way.
func takes(t *testing.T, b []byte) {
	t.Helper()
	want, wantSize, wantErr := plainTake(b)
	if n, size, err := Take(b); n != want || size != wantSize || err != wantErr {
		t.Errorf("Take(%x) = %d, %d, %v; want %d, %d, %v", b, n, size, err, want, wantSize, wantErr)
	}
	signed := want / 2
	if want%2 == 1 {
		signed = -1 - want/2
	}
	if n, size, err := TakeSigned(b); n != signed || size != wantSize || err != wantErr {
		t.Errorf("TakeSigned(%x) = %d, %d, %v; want %d, %d, %v", b, n, size, err, signed, wantSize, wantErr)
	}
}

func TestP2_1_TakeRefusesByRows(t *testing.T) {
	on := func(n int, behind ...byte) []byte { return append(bytes.Repeat([]byte{128}, n), behind...) }
	rows := []struct {
		b    []byte
		want api.Errno
	}{
		{nil, api.ErrShort}, {[]byte{}, api.ErrShort}, {on(1), api.ErrShort}, {[]byte{255}, api.ErrShort}, {on(8), api.ErrShort},
		{on(1, 0), api.ErrBody}, {on(2, 0), api.ErrBody}, {on(8, 0), api.ErrBody}, {[]byte{255, 0}, api.ErrBody}, {[]byte{129, 128, 0, 7}, api.ErrBody},
		{on(9), api.ErrBody}, {on(10), api.ErrBody}, {on(100), api.ErrBody}, {on(9, 0), api.ErrBody}, {on(9, 1), api.ErrBody}, {on(10, 1), api.ErrBody},
		{bytes.Repeat([]byte{255}, 9), api.ErrBody}, {bytes.Repeat([]byte{255}, 20), api.ErrBody},
	}
	if api.ErrShort != 120 || api.ErrBody != 121 {
		t.Error("the errors' numbers are others")
	}
	for _, r := range rows {
		if n, size, err := Take(r.b); n != 0 || size != 0 || err != r.want {
			t.Errorf("Take(%x) = %d, %d, %v; want %v", r.b, n, size, err, r.want)
		}
		if n, size, err := TakeSigned(r.b); n != 0 || size != 0 || err != r.want {
			t.Errorf("TakeSigned(%x) = %d, %d, %v; want %v", r.b, n, size, err, r.want)
		}
	}
}

func TestP2_1_TakeOfManyBytes(t *testing.T) {
	for x := range 256 {
		takes(t, []byte{byte(x)})
		for y := range 256 {
			takes(t, []byte{byte(x), byte(y)})
			takes(t, append(bytes.Repeat([]byte{200}, 7), byte(x), byte(y)))
			takes(t, append(bytes.Repeat([]byte{200}, 8), byte(x), byte(y)))
		}
	}
	m := mixed(5)
	for range 20000 {
		b := make([]byte, m.below(13))
		for i := range b {
			b[i] = byte(m.next())
			if m.below(3) > 0 {
				b[i] |= 128
			}
		}
		takes(t, b)
	}
}

func TestP2_1_TakeLooksAtTheBeginningAlone(t *testing.T) {
	for _, n := range numbers() {
		b, _ := Number(n)
		for _, behind := range [][]byte{{0}, {255}, {128, 0}, bytes.Repeat([]byte{255}, 20)} {
			if got, size, err := Take(slices.Concat(b, behind)); got != n || size != len(b) || err != api.OK {
				t.Errorf("Take(%x, %x) = %d, %d, %v", b, behind, got, size, err)
			}
		}
	}
}

// held asks Check, Frame and Frames of e and holds them against the second way.
func held(t *testing.T, e api.Entry) {
	t.Helper()
	want, wantErr := []byte(nil), api.ErrArg
	if plainMay(e) {
		want, wantErr = framed(plainBody(e)), api.OK
	}
	if err := Check(e); err != wantErr {
		t.Errorf("Check(%+v) = %v, want %v", e, err, wantErr)
	}
	if b, err := Frame(e); !bytes.Equal(b, want) || err != wantErr {
		t.Errorf("Frame(%+v) = %x, %v; want %x, %v", e, b, err, want, wantErr)
	}
	if b, err := Frames(e); !bytes.Equal(b, want) || err != wantErr {
		t.Errorf("Frames(%+v) = %x, %v; want %x, %v", e, b, err, want, wantErr)
	}
}

func TestP2_2_FramesOfRows(t *testing.T) {
	rows := []struct {
		e    api.Entry
		want []byte
	}{
		{api.Entry{Epoch: 1, ID: -1, Kind: api.EntryData, Value: -2}, []byte{1, 1, 0, 3}},
		{api.Entry{Epoch: 2, ID: 3, Num: 5, Kind: api.EntryCommit}, []byte{2, 2, 4, 5}},
		{api.Entry{Epoch: 300, ID: 0, Num: 128, Kind: api.EntryAbort}, []byte{3, 0xac, 2, 1, 128, 1}},
		{api.Entry{Epoch: 1, ID: 0, Num: 1, Kind: api.EntryData}, []byte{1, 1, 1, 1, 0, 0}},
		{longest(), []byte{1, 255, 255, 255, 255, 7, 4, 255, 255, 255, 255, 7, 255, 255, 255, 255, 7, 255, 255, 255, 255, 15}},
	}
	for _, r := range rows {
		if b, err := Frame(r.e); !bytes.Equal(b, framed(r.want)) || err != api.OK {
			t.Errorf("Frame(%+v) = %x, %v", r.e, b, err)
		}
	}
}

func TestP2_2_EntriesThatMayBe(t *testing.T) {
	for _, e := range somebodys() {
		if !plainMay(e) {
			t.Fatalf("%+v is no example", e)
		}
		held(t, e)
		if b, _ := Frame(e); len(b) > api.MaxFrame || len(b) > 27 {
			t.Errorf("the frame of %+v has %d bytes", e, len(b))
		}
	}
	if b, _ := Frame(longest()); len(b) != 27 {
		t.Errorf("the longest frame has %d bytes", len(b))
	}
}

func TestP2_2_EntriesOnePastTheirBounds(t *testing.T) {
	data := api.Entry{Epoch: 1, ID: 0, Num: 1, Seq: 0, Kind: api.EntryData, Value: 0}
	free := api.Entry{Epoch: 1, ID: -1, Kind: api.EntryData}
	mark := api.Entry{Epoch: 1, ID: 0, Num: 1, Kind: api.EntryCommit}
	far := []int64{math.MinInt64, -1 << 32, -1<<31 - 1, -1 << 31, -2, -1, 0, 1, 2, 3, 4, 5, 256, 1<<31 - 1, 1 << 31, 1 << 32, 1<<32 + 1, 1 << 62, math.MaxInt64}
	for _, base := range []api.Entry{data, free, mark, longest(), {}} {
		for _, n := range far {
			one := base
			one.Epoch = n
			held(t, one)
			one = base
			one.ID = int(n)
			held(t, one)
			one = base
			one.Num = n
			held(t, one)
			one = base
			one.Seq = n
			held(t, one)
			one = base
			one.Kind = api.EntryKind(n)
			held(t, one)
			one = base
			one.Value = n
			held(t, one)
		}
	}
}

func TestP2_2_EntriesThatMayNotBe(t *testing.T) {
	bad := []api.Entry{
		{},
		{Epoch: 0, ID: -1, Kind: api.EntryData},
		{Epoch: 1 << 31, ID: -1, Kind: api.EntryData},
		{Epoch: 1, ID: -1, Kind: api.EntryNone},
		{Epoch: 1, ID: -1, Kind: 4},
		{Epoch: 1, ID: 0, Num: 1, Kind: -1},
		{Epoch: 1, ID: -2, Kind: api.EntryData},
		{Epoch: 1, ID: 4, Num: 1, Kind: api.EntryData},
		{Epoch: 1, ID: -1, Num: 1, Kind: api.EntryData},
		{Epoch: 1, ID: -1, Seq: 1, Kind: api.EntryData},
		{Epoch: 1, ID: 0, Num: 0, Kind: api.EntryData},
		{Epoch: 1, ID: 0, Num: 1 << 31, Kind: api.EntryData},
		{Epoch: 1, ID: 0, Num: 1, Seq: -1, Kind: api.EntryData},
		{Epoch: 1, ID: 0, Num: 1, Seq: 1 << 31, Kind: api.EntryData},
		{Epoch: 1, ID: -1, Kind: api.EntryData, Value: 1 << 31},
		{Epoch: 1, ID: -1, Kind: api.EntryData, Value: -1<<31 - 1},
		{Epoch: 1, ID: -1, Kind: api.EntryCommit},
		{Epoch: 1, ID: -1, Num: 1, Kind: api.EntryCommit},
		{Epoch: 1, ID: 4, Num: 1, Kind: api.EntryAbort},
		{Epoch: 1, ID: 0, Num: 0, Kind: api.EntryCommit},
		{Epoch: 1, ID: 0, Num: 1, Seq: 1, Kind: api.EntryAbort},
		{Epoch: 1, ID: 0, Num: 1, Kind: api.EntryCommit, Value: 1},
	}
	good := api.Entry{Epoch: 1, ID: -1, Kind: api.EntryData}
	for _, e := range bad {
		if err := Check(e); err != api.ErrArg {
			t.Errorf("Check(%+v) = %v", e, err)
		}
		if b, err := Frame(e); len(b) != 0 || err != api.ErrArg {
			t.Errorf("Frame(%+v) = %x, %v", e, b, err)
		}
		for _, l := range [][]api.Entry{{e}, {e, good}, {good, e}, {good, e, good}} {
			if b, err := Frames(l...); len(b) != 0 || err != api.ErrArg {
				t.Errorf("Frames(%+v) = %x, %v", l, b, err)
			}
		}
	}
}

func TestP2_2_FramesStandOneBehindTheOther(t *testing.T) {
	if b, err := Frames(); len(b) != 0 || err != api.OK {
		t.Errorf("Frames of none = %x, %v", b, err)
	}
	if b, err := Frames([]api.Entry{}...); len(b) != 0 || err != api.OK {
		t.Errorf("Frames of an empty list = %x, %v", b, err)
	}
	var want []byte
	list := somebodys()
	for i, e := range list {
		want = append(want, framed(plainBody(e))...)
		if b, err := Frames(list[:i+1]...); i%37 == 0 && (!bytes.Equal(b, want) || err != api.OK) {
			t.Fatalf("Frames of %d entries have %d bytes, %v; want %d", i+1, len(b), err, len(want))
		}
	}
	if b, err := Frames(list...); !bytes.Equal(b, want) || err != api.OK {
		t.Errorf("Frames of all entries have %d bytes, %v; want %d", len(b), err, len(want))
	}
}

// reads asks Read of b and holds it against the second way.
func reads(t *testing.T, b []byte) {
	t.Helper()
	want, wantSize, wantErr := plainRead(b)
	if e, size, err := Read(b); e != want || size != wantSize || err != wantErr {
		t.Errorf("Read(%x) = %+v, %d, %v; want %+v, %d, %v", b, e, size, err, want, wantSize, wantErr)
	}
}

// refused asks Read of b, which must answer this error and nothing else, and All, which must end there.
func refused(t *testing.T, b []byte, want api.Errno) {
	t.Helper()
	if e, size, err := Read(b); e != (api.Entry{}) || size != 0 || err != want {
		t.Errorf("Read(%x) = %+v, %d, %v; want %v", b, e, size, err, want)
	}
	if len(b) == 0 {
		return
	}
	if s := All(b); len(s.Entries) != 0 || s.Good != 0 || s.Why != want {
		t.Errorf("All(%x) = %+v; want %v", b, s, want)
	}
}

func TestP2_3_ReadOfFrames(t *testing.T) {
	for _, e := range somebodys() {
		b := framed(plainBody(e))
		for _, behind := range [][]byte{nil, {0}, {255, 1}, make([]byte, 50)} {
			if got, size, err := Read(slices.Concat(b, behind)); got != e || size != len(b) || err != api.OK {
				t.Errorf("Read(%x, %x) = %+v, %d, %v", b, behind, got, size, err)
			}
		}
	}
}

func TestP2_3_ReadOfFramesThatAreCutOff(t *testing.T) {
	refused(t, nil, api.ErrShort)
	refused(t, []byte{}, api.ErrShort)
	for _, e := range []api.Entry{{Epoch: 1, ID: -1, Kind: api.EntryData, Value: -2}, {Epoch: 2, ID: 3, Num: 5, Kind: api.EntryCommit}, longest()} {
		b := framed(plainBody(e))
		for n := range b {
			refused(t, b[:n:n], api.ErrShort)
		}
	}
	// Not even a wrong sum is told of what isn't whole.
	refused(t, []byte{9, 9, 9, 9, 2, 1}, api.ErrShort)
	refused(t, []byte{9, 9, 9, 9, 35}, api.ErrShort)
	refused(t, append([]byte{9, 9, 9, 9, 35}, make([]byte, 34)...), api.ErrShort)
	refused(t, []byte{9, 9, 9, 9}, api.ErrShort)
	refused(t, []byte{0, 0, 0, 0}, api.ErrShort)
}

func TestP2_3_ReadOfSizesThatNoBodyHas(t *testing.T) {
	refused(t, []byte{0, 0, 0, 0, 0}, api.ErrBody)
	refused(t, []byte{9, 9, 9, 9, 0}, api.ErrBody)
	refused(t, append([]byte{9, 9, 9, 9, 0}, make([]byte, 60)...), api.ErrBody)
	for size := 36; size < 256; size++ {
		head := []byte{9, 9, 9, 9, byte(size)}
		refused(t, head, api.ErrBody)
		refused(t, append(head, 1, 1, 0, 3), api.ErrBody)
		refused(t, append(head, make([]byte, size)...), api.ErrBody)
		refused(t, framed(make([]byte, size)), api.ErrBody)
	}
	refused(t, framed(make([]byte, 35)), api.ErrBody)
	refused(t, append([]byte{9, 9, 9, 9, 35}, make([]byte, 35)...), api.ErrSum)
}

func TestP2_3_ReadOfBodiesOfNoEntry(t *testing.T) {
	bad := [][]byte{
		{0}, {1}, {4}, {255}, {1, 1}, {1, 1, 0}, {2, 2, 4},
		{0, 1, 0, 3}, {4, 1, 0, 3}, {129, 1, 0, 3}, // no kind
		{1, 0, 0, 3}, {1, 129, 0, 0, 3}, {1, 128, 128, 128, 128, 8, 0, 3}, // no epoch
		{1, 1, 5, 1, 0, 0}, {1, 1, 255, 1, 0, 0}, {1, 1, 128, 0, 3}, {2, 2, 0}, {2, 2, 0, 5}, {3, 2, 5, 5}, // no ID
		{1, 1, 1, 0, 0, 0}, {2, 2, 4, 0}, {2, 2, 4, 128, 128, 128, 128, 8}, {2, 2, 4, 133, 0}, // no number
		{1, 1, 1, 1, 128, 128, 128, 128, 8, 0}, {1, 1, 1, 1, 128, 0, 0}, // no place
		{1, 1, 0, 128, 128, 128, 128, 16}, {1, 1, 0, 129, 128, 128, 128, 16}, {1, 1, 0, 131, 0}, // no value
		{1, 1, 0, 3, 0}, {2, 2, 4, 5, 0}, {1, 1, 1, 1, 0, 0, 0}, {1, 1, 0, 3, 1, 1, 0, 3}, // more behind
		{1, 1, 0, 131}, {1, 129}, {2, 2, 4, 133}, // a number that goes on behind
		{1, 255, 255, 255, 255, 255, 255, 255, 255, 127, 0, 3},
		{1, 255, 255, 255, 255, 255, 255, 255, 255, 255, 1, 0, 3},
		{1, 1, 0, 255, 255, 255, 255, 255, 255, 255, 255, 127},
	}
	for _, body := range bad {
		refused(t, framed(body), api.ErrBody)
		refused(t, append(framed(body), make([]byte, 40)...), api.ErrBody)
		wrong := framed(body)
		wrong[0] ^= 1
		refused(t, wrong, api.ErrSum) // a wrong sum is told ahead of a body that is none
	}
}

func TestP2_3_ReadOfAllSmallBodies(t *testing.T) {
	for x := range 256 {
		reads(t, framed([]byte{byte(x)}))
		reads(t, framed([]byte{byte(x), 1, 0, 3}))
		reads(t, framed([]byte{1, byte(x), 0, 3}))
		reads(t, framed([]byte{1, 1, byte(x), 3}))
		reads(t, framed([]byte{2, 1, byte(x), 3}))
		reads(t, framed([]byte{1, 1, byte(x), 3, 3, 3}))
		reads(t, framed([]byte{1, 1, 0, byte(x)}))
	}
	some := []byte{0, 1, 2, 3, 4, 5, 128, 255}
	for size := 1; size <= 5; size++ {
		body := make([]byte, size)
		for n := range 1 << (3 * size) {
			for i := range body {
				body[i] = some[n>>(3*i)%8]
			}
			reads(t, framed(body))
		}
	}
}

func TestP2_3_ReadOfBodiesThatAreNearlyEntries(t *testing.T) {
	m := mixed(7)
	list := somebodys()
	for range 20000 {
		body := plainBody(list[m.below(len(list))])
		for range 1 + m.below(2) {
			at := m.below(len(body))
			switch m.below(4) {
			case 0:
				body[at] = byte(m.next())
			case 1:
				body[at] ^= 1 << m.below(8)
			case 2:
				body = slices.Insert(body, at, byte(m.next()))
			case 3:
				body = slices.Delete(body, at, at+1)
			}
			if len(body) == 0 {
				body = []byte{1}
			}
		}
		reads(t, framed(body))
	}
}

func TestP2_3_ReadAndAllOfAnyBytes(t *testing.T) {
	m := mixed(9)
	for range 20000 {
		b := make([]byte, m.below(60))
		for i := range b {
			b[i] = byte(m.next())
		}
		if len(b) > 4 && m.below(2) > 0 {
			b[4] = byte(m.below(40))
		}
		reads(t, b)
		s := All(b)
		if _, _, err := plainRead(b); len(b) > 0 && err != api.OK && s.Why != err {
			t.Errorf("All(%x) = %+v; want %v", b, s, err)
		}
	}
}

func TestP2_3_AllEndsWhereOneIsNotRight(t *testing.T) {
	if s := All(nil); len(s.Entries) != 0 || s.Good != 0 || s.Why != api.OK {
		t.Errorf("All of no bytes = %+v", s)
	}
	if s := All([]byte{}); len(s.Entries) != 0 || s.Good != 0 || s.Why != api.OK {
		t.Errorf("All of no bytes = %+v", s)
	}
	wrong := framed([]byte{1, 1, 0, 3})
	wrong[8] ^= 4
	ends := []struct {
		b   []byte
		why api.Errno
	}{
		{nil, api.OK}, {[]byte{0}, api.ErrShort}, {make([]byte, 4), api.ErrShort}, {make([]byte, 5), api.ErrBody},
		{framed([]byte{1, 1, 0, 3})[:8], api.ErrShort}, {wrong, api.ErrSum}, {framed([]byte{4, 1, 0, 3}), api.ErrBody}, {[]byte{1, 2, 3, 4, 36}, api.ErrBody},
	}
	list := somebodys()[:12]
	right := framed([]byte{1, 1, 0, 3})
	for n := 0; n <= len(list); n++ {
		var good []byte
		for _, e := range list[:n] {
			good = append(good, framed(plainBody(e))...)
		}
		for _, end := range ends {
			b := slices.Concat(good, end.b)
			if s := All(b); !slices.Equal(s.Entries, list[:n]) || s.Good != len(good) || s.Why != end.why {
				t.Errorf("All of %d frames and %x = %+v", n, end.b, s)
			}
			if end.why == api.OK || end.why == api.ErrShort {
				continue
			}
			// What stands right behind a wrong frame is no longer asked.
			if s := All(append(b, right...)); !slices.Equal(s.Entries, list[:n]) || s.Good != len(good) || s.Why != end.why {
				t.Errorf("All of %d frames, %x and a right one = %+v", n, end.b, s)
			}
		}
	}
}

func TestP2_4_AllOfFramesAreTheEntries(t *testing.T) {
	list := somebodys()
	for n := 0; n <= len(list); n += 1 + n/8 {
		b, err := Frames(list[:n]...)
		if s := All(b); err != api.OK || !slices.Equal(s.Entries, list[:n]) || s.Good != len(b) || s.Why != api.OK {
			t.Fatalf("All of the frames of %d entries: %d entries, %d good, %v", n, len(s.Entries), s.Good, s.Why)
		}
	}
	many := slices.Repeat(list, 40)
	b, _ := Frames(many...)
	if s := All(b); !slices.Equal(s.Entries, many) || s.Good != len(b) || s.Why != api.OK {
		t.Errorf("All of the frames of %d entries: %d entries, %d good, %v", len(many), len(s.Entries), s.Good, s.Why)
	}
}

func TestP2_4_AnyBytesBehindTakeNothing(t *testing.T) {
	m := mixed(11)
	list := somebodys()
	for range 3000 {
		n, at := m.below(6), m.below(len(list)-6)
		good, _ := Frames(list[at : at+n]...)
		behind := make([]byte, m.below(50))
		for i := range behind {
			behind[i] = byte(m.next())
		}
		s := All(slices.Concat(good, behind))
		if len(s.Entries) < n || !slices.Equal(s.Entries[:n], list[at:at+n]) || s.Good < len(good) {
			t.Errorf("All of %d entries and %x = %+v", n, behind, s)
		}
	}
}

func TestP2_4_TakeOfNumberIsTheNumber(t *testing.T) {
	for _, n := range numbers() {
		b, err := Number(n)
		if got, size, took := Take(b); err != api.OK || got != n || size != len(b) || took != api.OK {
			t.Errorf("Take(Number(%d)) = %d, %d, %v", n, got, size, took)
		}
		for _, s := range []int64{n / 2, -(n / 2), -(n / 2) - 1} {
			b, err := Signed(s)
			if got, size, took := TakeSigned(b); err != api.OK || got != s || size != len(b) || took != api.OK {
				t.Errorf("TakeSigned(Signed(%d)) = %d, %d, %v", s, got, size, took)
			}
		}
	}
}

// turned asks Read of a frame with bits of its sum and its body turned, and leaves it as it was.
func turned(t *testing.T, b []byte, places ...int) {
	t.Helper()
	turn := func() {
		for _, p := range places {
			if p >= 32 {
				p += 8 // the size stands between the sum and the body
			}
			b[p/8] ^= 1 << (p % 8)
		}
	}
	turn()
	if e, size, err := Read(b); e != (api.Entry{}) || size != 0 || err != api.ErrSum {
		t.Errorf("%d bytes, bits %v turned: %+v, %d, %v", len(b), places, e, size, err)
	}
	turn()
}

func TestP2_4_AllTurnsOfAShortFrame(t *testing.T) {
	for _, e := range []api.Entry{{Epoch: 1, ID: -1, Kind: api.EntryData, Value: -2}, {Epoch: 2, ID: 3, Num: 5, Kind: api.EntryCommit}} {
		b, _ := Frame(e)
		bits := 8 * (len(b) - 1)
		for x := range bits {
			turned(t, b, x)
			for y := range x {
				turned(t, b, x, y)
				for z := range y {
					turned(t, b, x, y, z)
				}
			}
		}
	}
}

func TestP2_4_TurnsOfLongerFrames(t *testing.T) {
	m := mixed(13)
	for _, e := range []api.Entry{longest(), {Epoch: api.MaxNumber, ID: 0, Num: api.MaxNumber, Kind: api.EntryAbort}, {Epoch: 1, ID: 1, Num: 2, Seq: 3, Kind: api.EntryData, Value: 4}} {
		b, _ := Frame(e)
		bits := 8 * (len(b) - 1)
		for x := range bits {
			turned(t, b, x)
			for y := range x {
				turned(t, b, x, y)
				if y > 0 {
					turned(t, b, x, y, m.below(y))
				}
			}
		}
	}
}

// withRoom is l, with spare room behind it that shows whether it was written.
func withRoom[T any](l []T, mark T) (short, whole []T) {
	whole = slices.Clone(l)
	for range 16 {
		whole = append(whole, mark)
	}
	return whole[:len(l)], whole
}

func TestP2_2_WhatIsHandedInStays(t *testing.T) {
	short, whole := withRoom(somebodys(), api.Entry{Kind: 77})
	before := slices.Clone(whole)
	Frames(short...)
	if !slices.Equal(whole, before) {
		t.Error("Frames changed the entries")
	}
	some, _ := Frames(short[:9]...)
	for _, b := range [][]byte{nil, {128}, {128, 0}, {172, 2}, some, some[:30], framed([]byte{4, 1}), make([]byte, 12)} {
		short, whole := withRoom(b, 0xa5)
		before := slices.Clone(whole)
		Take(short)
		TakeSigned(short)
		Read(short)
		All(short)
		if !slices.Equal(whole, before) {
			t.Errorf("%x was changed", b)
		}
	}
}

func TestP2_3_SpareRoomIsNotRead(t *testing.T) {
	b, _ := Frames(longest(), longest())
	for n := range b {
		cut := All(b[:n])
		if tight := All(slices.Clip(slices.Clone(b[:n]))); !slices.Equal(cut.Entries, tight.Entries) || cut.Good != tight.Good || cut.Why != tight.Why {
			t.Errorf("All of %d bytes sees what is behind them", n)
		}
	}
	if _, _, err := Take([]byte{128, 1}[:1]); err != api.ErrShort {
		t.Errorf("Take sees what is behind: %v", err)
	}
}

func TestP2_2_AnswersAreNewMemory(t *testing.T) {
	e := longest()
	want := framed(plainBody(e))
	makers := []func() []byte{
		func() []byte { b, _ := Frame(e); return b },
		func() []byte { b, _ := Frames(e); return b },
		func() []byte { b, _ := Number(math.MaxInt64); return b },
		func() []byte { b, _ := Signed(-1 << 62); return b },
	}
	for i, make := range makers {
		one, two := make(), make()
		kept := bytes.Clone(two)
		clear(one[:cap(one)])
		if !bytes.Equal(two, kept) || !bytes.Equal(make(), kept) {
			t.Errorf("maker %d hands out shared memory", i)
		}
	}
	b := slices.Concat(want, want)
	one, two := All(b), All(b)
	clear(one.Entries[:cap(one.Entries)])
	clear(b)
	if !slices.Equal(two.Entries, []api.Entry{e, e}) {
		t.Error("All hands out shared memory")
	}
}
