package sha

import (
	"strings"
	"testing"

	"proctor/api"
)

// rising is a sum whose bytes are 1 to 32.
func rising() api.Hash {
	var h api.Hash
	for i := range h {
		h[i] = byte(i + 1)
	}
	return h
}

const risingHex = "0102030405060708090a0b0c0d0e0f101112131415161718191a1b1c1d1e1f20"

// oneBits are all sums with one bit, or all but one.
func oneBits() []api.Hash {
	var all []api.Hash
	for bit := range 256 {
		var one, rest api.Hash
		one[bit/8] = 1 << (bit % 8)
		for i := range rest {
			rest[i] = ^one[i]
		}
		all = append(all, one, rest)
	}
	return all
}

// someSums have every byte at every place among them.
func someSums() []api.Hash {
	all := append(oneBits(), api.Hash{}, rising(), Sum(nil))
	for b := range 256 {
		var h api.Hash
		for i := range h {
			h[i] = byte(b + i)
		}
		all = append(all, h)
	}
	return all
}

// P1.2: Words and From.
func TestWordsAndFrom(t *testing.T) {
	want := [4]uint64{0x0102030405060708, 0x090a0b0c0d0e0f10, 0x1112131415161718, 0x191a1b1c1d1e1f20}
	if got := Words(rising()); got != want {
		t.Errorf("Words = %x", got)
	}
	if got := From(want); got != rising() {
		t.Errorf("From = %x", got)
	}
	if Words(api.Hash{}) != [4]uint64{} || From([4]uint64{}) != (api.Hash{}) {
		t.Error("the sum of noughts")
	}
	if got := Words(api.Hash{0: 0xff, 31: 0x80}); got != [4]uint64{0xff << 56, 0, 0, 0x80} {
		t.Errorf("Words = %x", got)
	}
}

// P1.2: Hex.
func TestHex(t *testing.T) {
	cases := []struct {
		sum  api.Hash
		text string
	}{
		{api.Hash{}, strings.Repeat("0", 64)},
		{rising(), risingHex},
		{api.Hash{0: 0xf0, 1: 0x0f, 31: 0xab}, "f00f" + strings.Repeat("0", 58) + "ab"},
	}
	for _, c := range cases {
		if got := Hex(c.sum); got != c.text {
			t.Errorf("Hex(%x) = %s, not %s", c.sum, got, c.text)
		}
	}
}

// P1.2: Unhex of a sum's text.
func TestUnhex(t *testing.T) {
	if got, e := Unhex(risingHex); got != rising() || e != api.OK {
		t.Errorf("Unhex = %x, %d", got, e)
	}
	if got, e := Unhex(strings.Repeat("f", 63) + "0"); got[0] != 0xff || got[31] != 0xf0 || e != api.OK {
		t.Errorf("Unhex = %x, %d", got, e)
	}
}

// P1.2: Unhex of texts of other lengths.
func TestUnhexOfOtherLengths(t *testing.T) {
	for n := range 200 {
		if n == 64 {
			continue
		}
		wantNoSum(t, strings.Repeat("0", n))
	}
	wantNoSum(t, risingHex+risingHex)
	wantNoSum(t, "0x"+risingHex)
	wantNoSum(t, risingHex+"\n")
}

// P1.2: Unhex takes no other byte, wherever it stands.
func TestUnhexOfOtherBytes(t *testing.T) {
	for c := range 256 {
		for i := range 64 {
			b := []byte(risingHex)
			b[i] = byte(c)
			s := string(b)
			if !strings.Contains("0123456789abcdef", string([]byte{byte(c)})) {
				wantNoSum(t, s)
			} else if h, e := Unhex(s); e != api.OK || Hex(h) != s {
				t.Errorf("Unhex(%q) = %x, %d", s, h, e)
			}
		}
	}
	wantNoSum(t, strings.ToUpper(risingHex))
	wantNoSum(t, strings.Repeat("é", 32))
}

func wantNoSum(t *testing.T, s string) {
	t.Helper()
	if h, e := Unhex(s); h != (api.Hash{}) || e != api.ErrForm {
		t.Errorf("Unhex(%q) = %x, %d", s, h, e)
	}
}

// P1.3: From of Words is the sum, Unhex of Hex too.
func TestThereAndBack(t *testing.T) {
	for _, h := range someSums() {
		if got := From(Words(h)); got != h {
			t.Errorf("From(Words(%x)) = %x", h, got)
		}
		if got, e := Unhex(Hex(h)); got != h || e != api.OK {
			t.Errorf("Unhex(Hex(%x)) = %x, %d", h, got, e)
		}
	}
}

// P1.2: any four numbers are the Words of a sum.
func TestWordsOfFrom(t *testing.T) {
	for i := range 4 {
		for bit := range 64 {
			var w [4]uint64
			w[i] = 1 << bit
			if got := Words(From(w)); got != w {
				t.Errorf("Words(From(%x)) = %x", w, got)
			}
		}
	}
}
