package rlp

import (
	"bytes"
	"math"
	"testing"

	"proctor/api"
)

// someNumbers are those about every power of two.
func someNumbers() []uint64 {
	all := []uint64{0, math.MaxUint64, 0x0102030405060708}
	for bit := range 64 {
		all = append(all, 1<<bit, 1<<bit-1, 1<<bit+1, 255<<bit)
	}
	return all
}

// P2.3: Num.
func TestNum(t *testing.T) {
	cases := []struct {
		n    uint64
		want []byte
	}{
		{0, nil}, {1, []byte{1}}, {127, []byte{127}}, {128, []byte{128}}, {255, []byte{255}}, {256, []byte{1, 0}}, {1024, []byte{4, 0}},
		{65535, []byte{255, 255}}, {65536, []byte{1, 0, 0}}, {0x010203040506, []byte{1, 2, 3, 4, 5, 6}},
		{1 << 56, []byte{1, 0, 0, 0, 0, 0, 0, 0}}, {1 << 63, []byte{0x80, 0, 0, 0, 0, 0, 0, 0}}, {math.MaxUint64, bytes.Repeat([]byte{255}, 8)},
	}
	for _, c := range cases {
		if x := Num(c.n); !bytes.Equal(x.Bytes, c.want) || x.IsList || len(x.List) != 0 {
			t.Errorf("Num(%d) = %v", c.n, x)
		}
		if n, e := ReadNum(by(c.want...)); n != c.n || e != api.OK {
			t.Errorf("ReadNum(%x) = %d, %d", c.want, n, e)
		}
	}
}

// P2.3: ReadNum of what is no number's item.
func TestReadNumOfOthers(t *testing.T) {
	others := []api.Item{
		by(0), by(0, 0), by(0, 1), by(0, 0, 0, 0, 0, 0, 0, 1), of(), of(by()), of(by(1)), within(17, by()),
		by(1, 0, 0, 0, 0, 0, 0, 0, 0), by(0, 1, 2, 3, 4, 5, 6, 7, 8), some(9), some(56), some(65534),
		{IsList: true, Bytes: []byte{1}}, {Bytes: []byte{1}, List: []api.Item{by(1)}}, {List: []api.Item{by()}},
	}
	for i, x := range others {
		if n, e := ReadNum(x); n != 0 || e != api.ErrForm {
			t.Errorf("%d: ReadNum = %d, %d", i, n, e)
		}
	}
	if n, e := ReadNum(api.Item{Bytes: []byte{}, List: []api.Item{}}); n != 0 || e != api.OK {
		t.Errorf("ReadNum of no bytes = %d, %d", n, e)
	}
}

// P2.4: ReadNum of Num is the number, and Num of ReadNum the item.
func TestNumThereAndBack(t *testing.T) {
	for _, n := range someNumbers() {
		if got, e := ReadNum(Num(n)); got != n || e != api.OK {
			t.Errorf("ReadNum(Num(%d)) = %d, %d", n, got, e)
		}
		form, e := Encode(Num(n))
		x, f := Decode(form)
		if got, g := ReadNum(x); got != n || e+f+g != api.OK {
			t.Errorf("%d by its form is %d, %d, %d, %d", n, got, e, f, g)
		}
	}
	for c := 1; c < 256; c++ {
		for width := 1; width <= 8; width++ {
			x := some(width)
			x.Bytes[0] = byte(c)
			n, e := ReadNum(x)
			if e != api.OK || !Same(Num(n), x) {
				t.Errorf("Num(ReadNum(%x)) = %v, %d", x.Bytes, Num(n), e)
			}
		}
	}
}
