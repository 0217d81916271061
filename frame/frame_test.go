package frame

import (
	"bytes"
	"fmt"
	"math"
	"math/big"
	"slices"
	"strings"
	"testing"

	"proctor/api"
	"proctor/rlp"
)

// fr is a frame.
func fr(channel uint64, seq int, last bool, body ...byte) api.Frame {
	return api.Frame{Channel: channel, Seq: seq, Last: last, Body: body}
}

// some is n bytes, none like the one behind it.
func some(n int) []byte {
	b := make([]byte, n)
	for i := range b {
		b[i] = byte(i*7 + i/256 + 200)
	}
	return b
}

// by is bytes as an item, of a list of items.
func by(b ...byte) api.Item     { return api.Item{Bytes: b} }
func of(l ...api.Item) api.Item { return api.Item{IsList: true, List: l} }

// join lays bytes one behind the other.
func join(pieces ...[]byte) []byte { return bytes.Join(pieces, nil) }

func equal(f, g api.Frame) bool {
	return f.Channel == g.Channel && f.Seq == g.Seq && f.Last == g.Last && bytes.Equal(f.Body, g.Body)
}

// tell is the first of some frames as a text, for a body may be long.
func tell(l ...api.Frame) string {
	var b strings.Builder
	for _, f := range l[:min(len(l), 8)] {
		fmt.Fprintf(&b, "[%d %d %v: %d bytes %x]", f.Channel, f.Seq, f.Last, len(f.Body), f.Body[:min(len(f.Body), 8)])
	}
	return fmt.Sprintf("%s of %d", b.String(), len(l))
}

// unlike are frames that may be, at the edges of each part.
func unlike() []api.Frame {
	var all []api.Frame
	for _, channel := range []uint64{0, 1, 7, 127, 128, 255, 256, 65535, 65536, 1 << 32, 1 << 56, 1 << 63, math.MaxUint64} {
		for _, seq := range []int{0, 1, 127, 128, 255, 256, 1022, 1023} {
			for _, last := range []bool{false, true} {
				all = append(all, fr(channel, seq, last, 5))
			}
		}
	}
	for c := range 256 {
		all = append(all, fr(7, 3, false, byte(c)))
	}
	for _, n := range []int{0, 1, 2, 3, 49, 50, 51, 52, 53, 54, 55, 56, 57, 250, 251, 252, 255, 256, 257, 4094, 4095, 4096} {
		all = append(all, fr(7, 3, true, some(n)...), fr(0, 0, false, make([]byte, n)...), fr(math.MaxUint64, 1023, true, bytes.Repeat([]byte{255}, n)...))
	}
	return all
}

// mayNot are frames that may not be.
func mayNot() []api.Frame {
	var all []api.Frame
	for _, seq := range []int{-1, -2, -1024, math.MinInt, 1024, 1025, 2047, 1 << 16, 1 << 32, 1<<32 + 1, math.MaxInt} {
		all = append(all, fr(7, seq, false), fr(7, seq, true, 1), fr(7, seq, true, some(4096)...), fr(7, seq, true, some(4097)...))
	}
	for _, n := range []int{4097, 4098, 8192, 65536, 70000} {
		all = append(all, fr(7, 0, true, some(n)...), fr(0, 1023, false, make([]byte, n)...))
	}
	return all
}

// P3.1: the bytes of frames, both ways.
func TestForms(t *testing.T) {
	cases := []struct {
		f api.Frame
		b []byte
	}{
		{fr(0, 0, false), []byte{0xc4, 0x80, 0x80, 0x80, 0x80}},
		{fr(0, 0, true), []byte{0xc4, 0x80, 0x80, 1, 0x80}},
		{fr(7, 1, true, 3), []byte{0xc4, 7, 1, 1, 3}},
		{fr(7, 1, false, 0), []byte{0xc4, 7, 1, 0x80, 0}},
		{fr(127, 127, false, 127), []byte{0xc4, 127, 127, 0x80, 127}},
		{fr(128, 128, false, 128), []byte{0xc7, 0x81, 128, 0x81, 128, 0x80, 0x81, 128}},
		{fr(256, 1023, false, 0x80), []byte{0xc9, 0x82, 1, 0, 0x82, 3, 255, 0x80, 0x81, 0x80}},
		{fr(math.MaxUint64, 256, true, 0, 0), []byte{0xd0, 0x88, 255, 255, 255, 255, 255, 255, 255, 255, 0x82, 1, 0, 1, 0x82, 0, 0}},
		{fr(1, 2, true, some(51)...), join([]byte{0xf7, 1, 2, 1, 0x80 + 51}, some(51))},
		{fr(1, 2, true, some(52)...), join([]byte{0xf8, 56, 1, 2, 1, 0x80 + 52}, some(52))},
		{fr(1, 2, true, some(55)...), join([]byte{0xf8, 59, 1, 2, 1, 0xb7}, some(55))},
		{fr(1, 2, true, some(56)...), join([]byte{0xf8, 61, 1, 2, 1, 0xb8, 56}, some(56))},
		{fr(1, 2, false, some(4096)...), join([]byte{0xf9, 0x10, 6, 1, 2, 0x80, 0xb9, 0x10, 0}, some(4096))},
	}
	for i, c := range cases {
		if b, e := Write(c.f); !bytes.Equal(b, c.b) || e != api.OK {
			t.Errorf("%d: Write = %.24x (%d bytes), %d", i, b, len(b), e)
		}
		if f, e := Read(c.b); !equal(f, c.f) || e != api.OK {
			t.Errorf("%d: Read = %s, %d", i, tell(f), e)
		}
	}
}

// P3.1: frames that may not be are not written.
func TestWriteOfFramesThatMayNotBe(t *testing.T) {
	for i, f := range mayNot() {
		if b, e := Write(f); len(b) != 0 || e != api.ErrArg {
			t.Errorf("%d: Write of the Seq %d with %d bytes = %d bytes, %d", i, f.Seq, len(f.Body), len(b), e)
		}
	}
}

func wantWrong(t *testing.T, b []byte, want api.Errno) {
	t.Helper()
	if f, e := Read(b); e != want || !equal(f, api.Frame{}) {
		t.Errorf("Read(%.24x, %d bytes) = %s, %d, not %d", b, len(b), tell(f), e, want)
	}
}

// P3.1: bytes that are no item's have rlp.Decode's error, whatever else is wrong with them.
func TestReadOfNoItem(t *testing.T) {
	cases := []struct {
		b    []byte
		want api.Errno
	}{
		{nil, api.ErrShort}, {[]byte{}, api.ErrShort}, {[]byte{0xc1}, api.ErrShort}, {[]byte{0xc5, 7, 1, 1, 3}, api.ErrShort},
		{[]byte{0xc4, 7, 1, 1, 0x81}, api.ErrShort}, {[]byte{0xc5, 7, 2, 9, 0xc3, 1}, api.ErrShort}, {[]byte{0x82, 1}, api.ErrShort},
		{[]byte{0xc4, 7, 1, 1, 3, 0}, api.ErrForm}, {[]byte{0xc5, 7, 1, 1, 0x81, 3}, api.ErrForm}, {[]byte{0x81, 5}, api.ErrForm},
		{make([]byte, api.MaxBytes+1), api.ErrLimit}, {join([]byte{0xc4, 7, 1, 1, 3}, make([]byte, api.MaxBytes)), api.ErrLimit},
		{join([]byte{0xfa, 1, 0, 0, 7, 1, 1, 0xb9, 0xff, 0xfa}, make([]byte, 65530)), api.ErrLimit},
	}
	for _, c := range cases {
		wantWrong(t, c.b, c.want)
	}
	for _, f := range unlike() {
		b, _ := Write(f)
		for n := range min(len(b), 40) {
			wantWrong(t, b[:n], api.ErrShort)
		}
		wantWrong(t, b[:len(b)-1], api.ErrShort)
		wantWrong(t, append(b, 0), api.ErrForm)
	}
}

// P3.1: bytes of items that are no frame's.
func TestReadOfOtherItems(t *testing.T) {
	seven, one := by(7), by(1)
	items := []api.Item{
		by(), by(7), by(7, 1, 1, 3), by(0xc4, 7, 1, 1, 3), by(some(65533)...),
		of(), of(seven), of(seven, one), of(seven, one, one), of(seven, one, one, by(3), by(3)), of(seven, one, one, by(3), of()),
		of(of(seven, one, one, by(3))), of(seven, one, one, of(by(3))), of(of(seven, one, one), by(3)),
		of(seven, one, one, of()), of(of(), one, one, by()), of(seven, of(), one, by()), of(seven, one, of(), by()),
		of(of(seven), one, one, by()), of(seven, of(one), one, by()), of(seven, one, of(one), by()),
		// Numbers with a 0 ahead.
		of(by(0), one, one, by(3)), of(seven, by(0), one, by(3)), of(seven, one, by(0), by(3)),
		of(by(0, 7), one, one, by(3)), of(seven, by(0, 1), one, by(3)), of(seven, one, by(0, 1), by(3)),
		// More than a number has.
		of(by(1, 0, 0, 0, 0, 0, 0, 0, 0), one, one, by()), of(seven, by(1, 0, 0, 0, 0, 0, 0, 0, 0), one, by()), of(seven, one, by(1, 0, 0, 0, 0, 0, 0, 0, 0), by()),
		of(by(some(20)...), one, one, by()), of(seven, by(some(20)...), one, by()), of(seven, one, by(some(20)...), by()),
	}
	// A Last that is neither 1 nor 0, and a Seq that may not be, whatever of it an int would hold.
	for _, n := range []uint64{2, 3, 127, 128, 255, 256, 257, 1 << 32, 1<<32 + 1, 1 << 63, 1<<63 + 1, math.MaxUint64} {
		items = append(items, of(seven, one, rlp.Num(n), by(3)))
	}
	for _, n := range []uint64{1024, 1025, 2048, 1 << 16, 1 << 31, 1 << 32, 1<<32 + 1, 1<<63 - 1, 1 << 63, 1<<63 + 1, math.MaxUint64} {
		items = append(items, of(seven, rlp.Num(n), one, by(3)))
	}
	for _, n := range []int{4097, 4098, 60000, 65527} {
		items = append(items, of(seven, one, one, by(some(n)...)), of(seven, one, one, by(make([]byte, n)...)))
	}
	for i, x := range items {
		b, e := rlp.Encode(x)
		if e != api.OK {
			t.Fatalf("%d is no item", i)
		}
		wantWrong(t, b, api.ErrForm)
	}
}

// judge is whether an item is a frame's, and whose, found by other means than Read's.
func judge(x api.Item) (api.Frame, bool) {
	if !x.IsList || len(x.List) != 4 {
		return api.Frame{}, false
	}
	var n [3]*big.Int
	for i, y := range x.List {
		if y.IsList {
			return api.Frame{}, false
		}
		if i < 3 {
			n[i] = new(big.Int).SetBytes(y.Bytes)
			if !bytes.Equal(n[i].Bytes(), y.Bytes) {
				return api.Frame{}, false
			}
		}
	}
	if n[0].BitLen() > 64 || n[1].BitLen() > 10 || n[2].BitLen() > 1 || len(x.List[3].Bytes) > 4096 {
		return api.Frame{}, false
	}
	return fr(n[0].Uint64(), int(n[1].Int64()), n[2].Sign() > 0, x.List[3].Bytes...), true
}

// wantJudged asks Read of b against rlp.Decode and judge, and Write whether what was read is written as b.
func wantJudged(t *testing.T, b []byte) {
	t.Helper()
	x, e := rlp.Decode(b)
	if e != api.OK {
		wantWrong(t, b, e)
		return
	}
	want, ok := judge(x)
	if !ok {
		wantWrong(t, b, api.ErrForm)
		return
	}
	got, e := Read(b)
	if e != api.OK || !equal(got, want) {
		t.Errorf("Read(%.24x) = %s, %d", b, tell(got), e)
	}
	if again, e := Write(got); e != api.OK || !bytes.Equal(again, b) {
		t.Errorf("Write(Read(%.24x)) = %.24x, %d", b, again, e)
	}
}

// P3.1, P3.3: short lists of all bytes of a kind that matters.
func TestReadOfFewBytes(t *testing.T) {
	kinds := []byte{0, 1, 2, 4, 0x7f, 0x80, 0x81, 0x82, 0x83, 0xc0, 0xc1, 0xff}
	for n := range 6 {
		everyChoice(n, kinds, func(b []byte) { wantJudged(t, join([]byte{0xc0 + byte(n)}, b)) })
	}
}

// everyChoice hands out all n things of some kinds.
func everyChoice[T any](n int, kinds []T, take func([]T)) {
	l := make([]T, n)
	var fill func(int)
	fill = func(i int) {
		if i == n {
			take(l)
			return
		}
		for _, x := range kinds {
			l[i] = x
			fill(i + 1)
		}
	}
	fill(0)
}

// P3.1, P3.3: frames' bytes with a byte changed, taken out or put in.
func TestReadOfSpoiltForms(t *testing.T) {
	for _, f := range unlike() {
		b, _ := Write(f)
		for i := range min(len(b), 24) {
			wantJudged(t, slices.Delete(bytes.Clone(b), i, i+1))
			for _, c := range []byte{0, 1, 2, 4, 0x7f, 0x80, 0x81, 0x82, 0xb7, 0xb8, 0xb9, 0xc0, 0xc1, 0xc4, 0xf8, 0xf9, 0xff} {
				spoilt := bytes.Clone(b)
				spoilt[i] = c
				wantJudged(t, spoilt)
				// With a head that goes with it, for a list of few bytes.
				wider := slices.Insert(bytes.Clone(b), i, c)
				wantJudged(t, wider)
				wider[0]++
				wantJudged(t, wider)
			}
		}
	}
}

// P3.3: Read of Write is the frame.
func TestThereAndBack(t *testing.T) {
	for _, f := range unlike() {
		b, e := Write(f)
		g, h := Read(b)
		if e != api.OK || h != api.OK || !equal(f, g) {
			t.Errorf("Read(Write(%s)) = %s, %d, %d", tell(f), tell(g), e, h)
		}
	}
	for seq := range api.MaxSeq {
		b, _ := Write(fr(7, seq, seq%2 > 0, byte(seq)))
		if f, e := Read(b); e != api.OK || !equal(f, fr(7, seq, seq%2 > 0, byte(seq))) {
			t.Errorf("Read(Write(of the Seq %d)) = %v, %d", seq, f, e)
		}
	}
}

// FuzzRead goes on where the tests end.
func FuzzRead(f *testing.F) {
	for _, x := range unlike() {
		b, _ := Write(x)
		f.Add(b)
	}
	f.Fuzz(wantJudged)
}
