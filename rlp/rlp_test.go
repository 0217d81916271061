package rlp

import (
	"bytes"
	"slices"
	"testing"

	"proctor/api"
)

// by is bytes as an item, of a list of items.
func by(b ...byte) api.Item     { return api.Item{Bytes: b} }
func of(l ...api.Item) api.Item { return api.Item{IsList: true, List: l} }

// some is n bytes as an item, of which the first has no form of its own.
func some(n int) api.Item {
	b := make([]byte, n)
	for i := range b {
		b[i] = byte(200 + i%50)
	}
	return by(b...)
}

// within is x in so many lists, each in the next.
func within(lists int, x api.Item) api.Item {
	for range lists {
		x = of(x)
	}
	return x
}

// times is one item, so many times.
func times(n int, x api.Item) []api.Item { return slices.Repeat([]api.Item{x}, n) }

// mal are items that are neither bytes nor a list.
func mal() []api.Item {
	return []api.Item{
		{List: []api.Item{by()}},
		{Bytes: []byte{1}, List: []api.Item{by(1)}},
		{IsList: true, Bytes: []byte{0}},
		{IsList: true, Bytes: []byte{1}, List: []api.Item{by(1)}},
	}
}

// P2.1: the form of bytes.
func TestFormOfBytes(t *testing.T) {
	for c := range 256 {
		want := []byte{byte(c)}
		if c >= 128 {
			want = []byte{0x81, byte(c)}
		}
		wantForm(t, by(byte(c)), want)
	}
	wantForm(t, by(), []byte{0x80})
	wantForm(t, by(0, 0), []byte{0x82, 0, 0})
	wantForm(t, by('d', 'o', 'g'), []byte{0x83, 'd', 'o', 'g'})
	cases := []struct {
		n    int
		head []byte
	}{
		{2, []byte{0x82}}, {54, []byte{0xb6}}, {55, []byte{0xb7}},
		{56, []byte{0xb8, 56}}, {57, []byte{0xb8, 57}}, {255, []byte{0xb8, 255}},
		{256, []byte{0xb9, 1, 0}}, {257, []byte{0xb9, 1, 1}}, {0x1200, []byte{0xb9, 0x12, 0}},
		{65533, []byte{0xb9, 0xff, 0xfd}},
	}
	for _, c := range cases {
		x := some(c.n)
		wantForm(t, x, append(c.head, x.Bytes...))
	}
}

// P2.1: the form of a list.
func TestFormOfLists(t *testing.T) {
	wantForm(t, of(), []byte{0xc0})
	wantForm(t, of(by()), []byte{0xc1, 0x80})
	wantForm(t, of(by('d', 'o', 'g'), by(0)), []byte{0xc5, 0x83, 'd', 'o', 'g', 0})
	wantForm(t, of(of(), of(of())), []byte{0xc3, 0xc0, 0xc1, 0xc0})
	wantForm(t, of(of(by(1), by(2)), by(3), of(by(0x80))), []byte{0xc7, 0xc2, 1, 2, 3, 0xc2, 0x81, 0x80})
	cases := []struct {
		n    int
		head []byte
	}{
		{1, []byte{0xc1}}, {55, []byte{0xf7}}, {56, []byte{0xf8, 56}}, {255, []byte{0xf8, 255}},
		{256, []byte{0xf9, 1, 0}}, {65533, []byte{0xf9, 0xff, 0xfd}},
	}
	for _, c := range cases {
		wantForm(t, of(times(c.n, by(9))...), append(c.head, bytes.Repeat([]byte{9}, c.n)...))
		wantForm(t, of(times(c.n, of())...), append(c.head, bytes.Repeat([]byte{0xc0}, c.n)...))
	}
	// A list whose body is short, in one whose body is long.
	short := append([]byte{0xf7, 0xb6}, some(54).Bytes...)
	wantForm(t, of(some(54)), short)
	wantForm(t, of(of(some(54))), append([]byte{0xf8, 56}, short...))
}

// wantForm asks Encode and May.
func wantForm(t *testing.T, x api.Item, want []byte) {
	t.Helper()
	if got, e := Encode(x); !bytes.Equal(got, want) || e != api.OK {
		t.Errorf("Encode = %.20x (%d bytes), %d, not %.20x (%d bytes)", got, len(got), e, want, len(want))
	}
	if !May(x) || !Same(x, x) {
		t.Errorf("the item of the form %.20x may not be", want)
	}
}

// P2.1: a form of MaxBytes bytes, and one more.
func TestMostBytes(t *testing.T) {
	most := []api.Item{
		some(65533), of(some(65530)), within(3, some(65524)),
		of(times(65533, by(1))...), of(times(65533, of())...), of(append(times(65532, by(1)), by())...),
		of(of(times(65530, by())...)),
	}
	for i, x := range most {
		if b, e := Encode(x); len(b) != api.MaxBytes || e != api.OK || !May(x) {
			t.Errorf("%d: Encode has %d bytes, %d", i, len(b), e)
		}
	}
	more := []api.Item{
		some(65534), some(65535), some(65536), some(65537), some(1 << 20),
		of(some(65531)), of(some(65533)), within(3, some(65525)),
		of(times(65534, by(1))...), of(times(65535, of())...), of(times(65536, by())...), of(times(65537, by())...),
		of(append(times(65533, by(1)), by())...), of(append(times(65533, by(1)), of())...), of(append(times(65532, by(1)), by(0x80))...),
		of(of(times(65531, by())...)), of(times(1<<20, by(1))...),
		of(some(40000), some(40000)), of(of(some(40000)), of(some(40000))),
	}
	for i, x := range more {
		wantNoForm(t, i, x)
	}
}

// P2.1: lists MaxDepth deep, and one more.
func TestMostDepth(t *testing.T) {
	for n := range 17 {
		if !May(within(n, by(1))) || !May(within(n, some(300))) {
			t.Errorf("bytes in %d lists may not be", n)
		}
	}
	for n := range 16 {
		if !May(within(n, of())) || !May(of(times(3, within(n, by()))...)) {
			t.Errorf("a list in %d lists may not be", n)
		}
	}
	deep := []api.Item{
		within(16, of()), within(17, by()), within(40, of()),
		of(by(1), within(15, of()), by(2)), within(15, of(by(1), by(2), of())),
		of(append(times(1000, by(1)), within(16, by()))...),
	}
	for i, x := range deep {
		wantNoForm(t, i, x)
	}
}

// P2.1: what is neither bytes nor a list, wherever it stands.
func TestNeitherBytesNorList(t *testing.T) {
	for i, x := range mal() {
		for n := range 17 {
			wantNoForm(t, i, within(n, x))
			wantNoForm(t, i, of(by(1), within(n/2, of(of(), x)), by(2)))
		}
	}
	for _, x := range []api.Item{{Bytes: []byte{1}, List: []api.Item{}}, {IsList: true, Bytes: []byte{}, List: []api.Item{by()}}} {
		if !May(x) {
			t.Errorf("an empty list beside is held against %v", x)
		}
	}
}

// P2.1: lists that stand within themselves, or of which there are far too many.
func TestListsWithoutEnd(t *testing.T) {
	alone := make([]api.Item, 1)
	alone[0] = api.Item{IsList: true, List: alone}
	broad := make([]api.Item, 100)
	for i := range broad {
		broad[i] = api.Item{IsList: true, List: broad}
	}
	last := times(1000, by(1))
	last[999] = api.Item{IsList: true, List: last}
	one, other := times(2, by()), times(2, by())
	one[1], other[1] = api.Item{IsList: true, List: other}, api.Item{IsList: true, List: one}
	wide, empty := by(), of()
	for range 16 {
		wide = of(times(100, wide)...)
	}
	for range 15 {
		empty = of(times(100, empty)...)
	}
	for i, x := range []api.Item{of(alone...), alone[0], broad[0], of(last...), last[999], one[1], other[1], wide, empty} {
		wantNoForm(t, i, x)
		if Same(x, by()) || Same(of(), x) {
			t.Errorf("%d: the same as another", i)
		}
	}
}

// wantNoForm asks Encode, May and Same of an item that may not be.
func wantNoForm(t *testing.T, i int, x api.Item) {
	t.Helper()
	if b, e := Encode(x); len(b) != 0 || e != api.ErrArg {
		t.Errorf("%d: Encode = %.20x (%d bytes), %d", i, b, len(b), e)
	}
	if May(x) || Same(x, x) {
		t.Errorf("%d: it may be", i)
	}
}

// P2.1: Same, of each item with itself and with every other one; and P2.4: unlike forms of unlike items.
func TestSame(t *testing.T) {
	all := unlike()
	for i, x := range all {
		for j, y := range all {
			if got := Same(x, copied(y)); got != (i == j) {
				t.Errorf("Same(%d, %d) = %t", i, j, got)
			}
			a, _ := Encode(x)
			b, _ := Encode(y)
			if got := bytes.Equal(a, b); got != (i == j) {
				t.Errorf("the forms of %d and %d are alike: %t", i, j, got)
			}
		}
		for _, y := range append(mal(), within(17, by()), some(65534)) {
			if Same(x, y) || Same(y, x) {
				t.Errorf("Same(%d, what may not be)", i)
			}
		}
	}
}

// P2.1: empty and nil lists are alike.
func TestSameOfEmptyLists(t *testing.T) {
	none := []api.Item{{}, {Bytes: []byte{}}, {List: []api.Item{}}, {Bytes: []byte{}, List: []api.Item{}}}
	for _, x := range none {
		for _, y := range none {
			if !Same(x, y) || !Same(of(by(1), x), of(by(1), y)) {
				t.Errorf("Same(%v, %v) as bytes", x, y)
			}
			x, y := x, y
			x.IsList, y.IsList = true, true
			if !Same(x, y) || !Same(of(by(1), x), of(by(1), y)) {
				t.Errorf("Same(%v, %v) as lists", x, y)
			}
		}
	}
}

// unlike are items of which no two are the same.
func unlike() []api.Item {
	return []api.Item{
		by(), of(), by(0), by(1), by(0x7f), by(0x80), by(0x81), by(0, 0), by(1, 2), by(2, 1), by(0xc0), by(0xc1, 0x80),
		of(by()), of(of()), of(by(0)), of(by(1)), of(by(1), by(2)), of(by(2), by(1)), of(by(1, 2)), of(by(1), by(2), by(3)),
		of(of(by(1)), by(2)), of(of(by(1), by(2))), of(by(1), of(by(2))), of(by(), by()), of(of(), of()), of(of(of())), of(of(), by()),
		some(54), some(55), some(56), some(57), some(255), some(256), some(65533), of(some(54)), of(some(55)), of(some(56)), of(some(255)),
		within(16, by()), within(16, by(1)), within(15, of()), within(15, by()), of(times(60, by(1))...), of(times(61, by(1))...),
		of(of(times(60, by(1))...), by(1)), of(times(65533, by())...),
	}
}

// copied is an item in memory of its own.
func copied(x api.Item) api.Item {
	x.Bytes = bytes.Clone(x.Bytes)
	x.List = slices.Clone(x.List)
	for i := range x.List {
		x.List[i] = copied(x.List[i])
	}
	return x
}
