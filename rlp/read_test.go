package rlp

import (
	"bytes"
	"math/big"
	"slices"
	"testing"

	"proctor/api"
)

// join lays bytes one behind the other.
func join(parts ...[]byte) []byte { return bytes.Join(parts, nil) }

// heads are the heads of n lists, each in the next, around so many bytes: short ones alone.
func heads(n, inner int) []byte {
	var b []byte
	for i := n - 1; i >= 0; i-- {
		b = append(b, byte(0xc0+i+inner))
	}
	return b
}

// P2.2: forms, and the items whose forms they are.
func TestDecode(t *testing.T) {
	cases := []struct {
		b    []byte
		want api.Item
	}{
		{[]byte{0}, by(0)},
		{[]byte{0x7f}, by(0x7f)},
		{[]byte{0x80}, by()},
		{[]byte{0x81, 0x80}, by(0x80)},
		{[]byte{0x81, 0xff}, by(0xff)},
		{[]byte{0x82, 0, 0}, by(0, 0)},
		{[]byte{0x83, 'd', 'o', 'g'}, by('d', 'o', 'g')},
		{join([]byte{0xb7}, some(55).Bytes), some(55)},
		{join([]byte{0xb8, 56}, some(56).Bytes), some(56)},
		{join([]byte{0xb8, 255}, some(255).Bytes), some(255)},
		{join([]byte{0xb9, 1, 0}, some(256).Bytes), some(256)},
		{join([]byte{0xb9, 0xff, 0xfd}, some(65533).Bytes), some(65533)},
		{[]byte{0xc0}, of()},
		{[]byte{0xc1, 0x80}, of(by())},
		{[]byte{0xc5, 0x83, 'd', 'o', 'g', 0}, of(by('d', 'o', 'g'), by(0))},
		{[]byte{0xc7, 0xc2, 1, 2, 3, 0xc2, 0x81, 0x80}, of(of(by(1), by(2)), by(3), of(by(0x80)))},
		{join([]byte{0xf7}, make([]byte, 55)), of(times(55, by(0))...)},
		{join([]byte{0xf8, 56}, make([]byte, 56)), of(times(56, by(0))...)},
		{join([]byte{0xf9, 1, 0}, make([]byte, 256)), of(times(256, by(0))...)},
		{join([]byte{0xf9, 0xff, 0xfd}, make([]byte, 65533)), of(times(65533, by(0))...)},
		{join(heads(16, 0)), within(15, of())},
		{join(heads(16, 1), []byte{5}), within(16, by(5))},
		{join(heads(15, 2), []byte{0xc0, 0xc0}), within(14, of(of(), of()))},
	}
	for i, c := range cases {
		x, e := Decode(c.b)
		if e != api.OK || !equal(x, c.want) {
			t.Errorf("%d: Decode(%.20x) = %.100v, %d", i, c.b, x, e)
		}
	}
}

// equal holds items against each other without the package's own means.
func equal(x, y api.Item) bool {
	return x.IsList == y.IsList && slices.Equal(x.Bytes, y.Bytes) && slices.EqualFunc(x.List, y.List, equal)
}

func wantWrong(t *testing.T, b []byte, want api.Errno) {
	t.Helper()
	if x, e := Decode(b); e != want || x.IsList || len(x.Bytes) != 0 || len(x.List) != 0 {
		t.Errorf("Decode(%.24x, %d bytes) = %.100v, %d, not %d", b, len(b), x, e, want)
	}
}

// P2.2: bytes that end too early.
func TestDecodeShort(t *testing.T) {
	for _, b := range [][]byte{
		nil, {},
		{0x81}, {0x83, 'd', 'o'}, {0xb7}, join([]byte{0xb7}, make([]byte, 54)),
		{0xb8}, {0xb9}, {0xb9, 1}, {0xbf, 1, 2, 3, 4, 5, 6, 7}, {0xf8}, {0xff, 1, 2, 3, 4, 5, 6, 7},
		{0xb8, 56}, join([]byte{0xb8, 56}, make([]byte, 55)), {0xf8, 56}, join([]byte{0xf8, 56}, make([]byte, 55)),
		join([]byte{0xb9, 1, 0}, make([]byte, 255)), join([]byte{0xf9, 1, 0}, make([]byte, 255)),
		join([]byte{0xb9, 0xff, 0xff}, make([]byte, 65533)), {0xba, 1, 0, 0},
		{0xc1}, {0xc3, 1, 2}, join([]byte{0xf7}, make([]byte, 54)),
		{0xc2, 0x82, 1}, {0xc1, 0x81}, {0xc1, 0xb8}, {0xc1, 0xc1}, {0xc2, 0xb8, 56}, {0xc2, 0xf8, 56}, {0xc2, 0xb9, 1},
		{0xc3, 0xc1, 0x82, 1}, {0xc3, 1, 2, 0x81}, {0xc2, 0xc1, 0xc1},
	} {
		wantWrong(t, b, api.ErrShort)
	}
	for _, x := range unlike() {
		b, _ := Encode(x)
		for n := range min(len(b), 300) {
			wantWrong(t, b[:n], api.ErrShort)
		}
		wantWrong(t, b[:len(b)-1], api.ErrShort)
	}
}

// P2.2: lengths that no int holds, or no sum with a place.
func TestDecodeLongLengths(t *testing.T) {
	for _, mark := range []byte{0xbf, 0xff} {
		for _, first := range []byte{1, 0x7f, 0x80, 0xff} {
			for _, last := range []byte{0, 1, 0x80, 0xff} {
				b := []byte{mark, first, last, last, last, last, last, last, last}
				wantWrong(t, b, api.ErrShort)
				wantWrong(t, join(b, make([]byte, 300)), api.ErrShort)
				wantWrong(t, join([]byte{0xc9}, b), api.ErrShort)
			}
		}
	}
}

// P2.2: bytes of another form.
func TestDecodeOtherForms(t *testing.T) {
	for c := range 128 {
		wantWrong(t, []byte{0x81, byte(c)}, api.ErrForm)
		wantWrong(t, []byte{0xc2, 0x81, byte(c)}, api.ErrForm)
	}
	for n := range 56 {
		wantWrong(t, join([]byte{0xb8, byte(n)}, make([]byte, n)), api.ErrForm)
		wantWrong(t, join([]byte{0xf8, byte(n)}, make([]byte, n)), api.ErrForm)
	}
	for _, b := range [][]byte{
		join([]byte{0xb9, 0, 56}, make([]byte, 56)), join([]byte{0xf9, 0, 56}, make([]byte, 56)),
		join([]byte{0xba, 0, 1, 0}, make([]byte, 256)), join([]byte{0xfa, 0, 1, 0}, make([]byte, 256)),
		join([]byte{0xbf, 0, 0, 0, 0, 0, 0, 0, 56}, make([]byte, 56)), {0xbf, 0, 0, 0, 0, 0, 0, 0, 0},
		{0, 0}, {0x80, 0}, {0xc0, 0xc0}, {0xc1, 0x80, 0}, {0x81, 0x80, 0x81}, {0x83, 'd', 'o', 'g', 's'},
		join([]byte{0xb8, 56}, make([]byte, 57)), join([]byte{0xf8, 56}, make([]byte, 57)),
	} {
		wantWrong(t, b, api.ErrForm)
	}
}

// P2.2: lists that are too deep.
func TestDecodeDeep(t *testing.T) {
	for _, b := range [][]byte{
		heads(17, 0), heads(18, 0), heads(40, 0), join(heads(17, 1), []byte{5}), join(heads(15, 3), []byte{0xc0, 0xc1, 0xc0}),
		// Ahead of all that its own head may say: that the bytes lack, that there is no L, that L has a 0 ahead.
		join(heads(16, 1), []byte{0xc1}), join(heads(16, 1), []byte{0xff}), join(heads(16, 1), []byte{0xf8}),
		join(heads(16, 3), []byte{0xf9, 0, 56}), join(heads(16, 1), []byte{0xd5}),
		// Ahead of what stands behind its head.
		join(heads(16, 2), []byte{0xc0, 0x82}), join(heads(16, 3), []byte{5, 0xc1, 0x82}),
	} {
		wantWrong(t, b, api.ErrForm)
	}
	wantWrong(t, join(heads(16, 2), []byte{0x82, 0xc0}), api.ErrShort)
}

// P2.2: more than MaxBytes bytes, ahead of all else.
func TestDecodeLimit(t *testing.T) {
	for _, first := range []byte{0, 0x80, 0x81, 0xb8, 0xb9, 0xbf, 0xc0, 0xff} {
		wantWrong(t, join([]byte{first}, make([]byte, api.MaxBytes)), api.ErrLimit)
		wantWrong(t, join([]byte{first}, make([]byte, 1<<20)), api.ErrLimit)
	}
	wantWrong(t, join([]byte{0xb9, 0xff, 0xfe}, make([]byte, 65534)), api.ErrLimit)
	wantWrong(t, join([]byte{0xf9, 0xff, 0xfe}, make([]byte, 65534)), api.ErrLimit)
	wantWrong(t, make([]byte, api.MaxBytes), api.ErrForm)
	wantWrong(t, join([]byte{0xb9, 0xff, 0xfe}, make([]byte, 65533)), api.ErrShort)
}

// P2.2: which of two errors comes first.
func TestDecodeFirstError(t *testing.T) {
	cases := []struct {
		b    []byte
		want api.Errno
	}{
		{[]byte{0xc5, 0x81, 5}, api.ErrShort},                        // the list's head, ahead of what is in it
		{[]byte{0xc4, 0x81, 5, 0x83, 1}, api.ErrForm},                // the first item, ahead of the second
		{[]byte{0xc2, 0x82, 1, 0}, api.ErrShort},                     // an item, ahead of bytes behind all
		{[]byte{0xc2, 0x81, 5, 0x83}, api.ErrForm},                   // likewise
		{[]byte{0x80, 0xb8}, api.ErrForm},                            // bytes behind are no item
		{[]byte{0x80, 0xff}, api.ErrForm},                            // likewise
		{[]byte{0xc1, 0x81, 5}, api.ErrShort},                        // the list's end, ahead of what stands behind it
		{[]byte{0xc3, 0xc3, 1, 2, 3}, api.ErrShort},                  // likewise, of a list in a list
		{[]byte{0xc4, 0xc3, 0x81, 5}, api.ErrShort},                  // the outermost end
		{[]byte{0xc4, 0xc3, 0x81, 5, 0x81}, api.ErrForm},             // what is in the inner list
		{[]byte{0xb9, 0}, api.ErrShort},                              // an L of which bytes lack, whatever it begins with
		{[]byte{0xf9, 0}, api.ErrShort},                              // likewise
		{[]byte{0xc2, 0xb9, 0, 56}, api.ErrShort},                    // likewise, as its list has no more left
		{[]byte{0xb9, 0, 56}, api.ErrForm},                           // a 0 ahead, ahead of what it says
		{[]byte{0xbf, 0, 255, 0, 0, 0, 0, 0, 0}, api.ErrForm},        // likewise
		{[]byte{0xb8, 55}, api.ErrForm},                              // too little, ahead of bytes that lack
		{[]byte{0xf8, 55}, api.ErrForm},                              // likewise
		{[]byte{0xf8, 0}, api.ErrForm},                               // likewise
		{[]byte{0xc6, 0x82, 1, 2, 0x81, 5, 0xb8}, api.ErrForm},       // the second item
		{[]byte{0xc6, 0x82, 1, 2, 0xb8, 56, 0x81}, api.ErrShort},     // likewise
		{join([]byte{0xc2, 0xb8, 56}, some(56).Bytes), api.ErrShort}, // a list's end, though the bytes are there
	}
	for _, c := range cases {
		wantWrong(t, c.b, c.want)
	}
}

// judge says what Decode's error is, with a list of the ends of the lists that are open in the recursion's place.
func judge(b []byte) api.Errno {
	if len(b) > api.MaxBytes {
		return api.ErrLimit
	}
	var ends []int
	at, end := 0, len(b)
	for begun := false; !begun || len(ends) > 0; begun = true {
		if len(ends) > 0 && at == end {
			end, ends = ends[len(ends)-1], ends[:len(ends)-1]
			continue
		}
		if at == end {
			return api.ErrShort
		}
		mark := int(b[at])
		at++
		if mark < 0x80 {
			continue
		}
		list := mark >= 0xc0
		if list && len(ends) == 16 {
			return api.ErrForm
		}
		size, width, e := judgeLength(b[at:end], mark%0x40)
		if e != api.OK {
			return e
		}
		at += width
		if list {
			ends = append(ends, end)
			end = at + size
			continue
		}
		if size == 1 && b[at] < 0x80 {
			return api.ErrForm
		}
		at += size
	}
	if at < len(b) {
		return api.ErrForm
	}
	return api.OK
}

// judgeLength is the length behind a head, and how many bytes it took.
func judgeLength(b []byte, low int) (size, width int, e api.Errno) {
	if low < 56 {
		if low > len(b) {
			return 0, 0, api.ErrShort
		}
		return low, 0, api.OK
	}
	width = low - 55
	if width > len(b) {
		return 0, 0, api.ErrShort
	}
	n := new(big.Int).SetBytes(b[:width])
	switch {
	case b[0] == 0 || n.Cmp(big.NewInt(56)) < 0:
		return 0, 0, api.ErrForm
	case n.Cmp(big.NewInt(int64(len(b)-width))) > 0:
		return 0, 0, api.ErrShort
	}
	return int(n.Int64()), width, api.OK
}

// wantJudged asks Decode of b against judge, and Encode whether what was read is written as b.
func wantJudged(t *testing.T, b []byte) {
	t.Helper()
	want := judge(b)
	if want != api.OK {
		wantWrong(t, b, want)
		return
	}
	x, e := Decode(b)
	if e != api.OK || !May(x) {
		t.Errorf("Decode(%.24x, %d bytes) = %.100v, %d", b, len(b), x, e)
	}
	if got, e := Encode(x); e != api.OK || !bytes.Equal(got, b) {
		t.Errorf("Encode(Decode(%.24x)) = %.24x, %d", b, got, e)
	}
}

// P2.2, P2.4: all bytes of a kind that matters, up to four of them; and all of up to two.
func TestDecodeOfFewBytes(t *testing.T) {
	kinds := []byte{0, 1, 55, 56, 0x7f, 0x80, 0x81, 0x82, 0xb7, 0xb8, 0xb9, 0xbf, 0xc0, 0xc1, 0xc2, 0xc3, 0xf7, 0xf8, 0xf9, 0xff}
	for n := range 5 {
		everyChoice(n, kinds, func(b []byte) { wantJudged(t, b) })
	}
	all := make([]byte, 256)
	for i := range all {
		all[i] = byte(i)
	}
	everyChoice(1, all, func(b []byte) { wantJudged(t, b) })
	everyChoice(2, all, func(b []byte) { wantJudged(t, b) })
}

// everyChoice hands out all n bytes of some kinds.
func everyChoice(n int, kinds []byte, take func([]byte)) {
	b := make([]byte, n)
	var fill func(int)
	fill = func(i int) {
		if i == n {
			take(b)
			return
		}
		for _, c := range kinds {
			b[i] = c
			fill(i + 1)
		}
	}
	fill(0)
}

// P2.2, P2.4: forms with a byte changed, taken out or put in, at every place.
func TestDecodeOfSpoiltForms(t *testing.T) {
	for _, x := range few() {
		b, _ := Encode(x)
		for i := range min(len(b), 80) {
			wantJudged(t, slices.Delete(bytes.Clone(b), i, i+1))
			for _, c := range []byte{0, 1, 55, 56, 0x7f, 0x80, 0x81, 0xb7, 0xb8, 0xb9, 0xbf, 0xc0, 0xc1, 0xcf, 0xf7, 0xf8, 0xf9, 0xff} {
				spoilt := bytes.Clone(b)
				spoilt[i] = c
				wantJudged(t, spoilt)
				wantJudged(t, slices.Insert(bytes.Clone(b), i, c))
			}
		}
	}
}

// FuzzDecode goes on where the tests end.
func FuzzDecode(f *testing.F) {
	for _, x := range unlike() {
		b, _ := Encode(x)
		f.Add(b)
	}
	f.Fuzz(wantJudged)
}
