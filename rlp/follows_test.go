package rlp

import (
	"bytes"
	"math/rand"
	"testing"

	"proctor/api"
)

// P2.4: Decode of Encode is the item.
func TestThereAndBack(t *testing.T) {
	all := append(unlike(), of(unlike()[:30]...), of(times(200, some(300))...))
	source := rand.New(rand.NewSource(2))
	for range 3000 {
		all = append(all, chosen(source, 6))
	}
	for i, x := range all {
		b, e := Encode(x)
		y, f := Decode(b)
		if e != api.OK || f != api.OK || !equal(x, y) || !Same(x, y) {
			t.Errorf("%d: Encode answers %d, Decode %d, of the form %.40x", i, e, f, b)
		}
	}
}

// chosen is some item of at most so many lists in lists.
func chosen(source *rand.Rand, lists int) api.Item {
	if lists == 0 || source.Intn(3) == 0 {
		b := make([]byte, []int{0, 1, 2, 54, 55, 56, 255, 256}[source.Intn(8)])
		source.Read(b)
		return by(b...)
	}
	l := make([]api.Item, source.Intn(5))
	for i := range l {
		l[i] = chosen(source, lists-1)
	}
	return of(l...)
}

// P2.4: what Decode takes is the form of what it answers: bytes that are likely to be taken, by the thousand.
func TestTakenBytesAreForms(t *testing.T) {
	source := rand.New(rand.NewSource(3))
	taken := 0
	for range 20000 {
		b := make([]byte, source.Intn(12)+1)
		for i := range b {
			b[i] = []byte{0, 0x7f, 0x80, 0x81, 0xc0, 0xc1, 0xc2, byte(0xc0 + len(b) - 1 - i)}[source.Intn(8)]
		}
		b[0] = byte(0xc0 + len(b) - 1)
		x, e := Decode(b)
		if e != api.OK {
			continue
		}
		taken++
		if got, e := Encode(x); !bytes.Equal(got, b) || e != api.OK {
			t.Errorf("Encode(Decode(%x)) = %x, %d", b, got, e)
		}
	}
	if taken < 500 {
		t.Errorf("%d were taken", taken)
	}
}
