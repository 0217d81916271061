package sha

import (
	"bytes"
	"crypto/sha256"
	"math/big"
	"strings"
	"testing"

	"proctor/api"
)

// someBytes are n bytes that do not repeat block by block.
func someBytes(n int) []byte {
	b := make([]byte, n)
	x := uint32(n + 1)
	for i := range b {
		x = x*1664525 + 1013904223
		b[i] = byte(x >> 24)
	}
	return b
}

// withRoom is b with filled room behind its end, and the whole of it.
func withRoom(b []byte) (short, whole []byte) {
	whole = append(bytes.Clone(b), bytes.Repeat([]byte{0xa5}, 200)...)
	return whole[:len(b)], whole
}

// P1.1: texts with sums that others published.
func TestSumOfKnownTexts(t *testing.T) {
	cases := []struct{ text, sum string }{
		{"", "e3b0c44298fc1c149afbf4c8996fb92427ae41e4649b934ca495991b7852b855"},
		{"abc", "ba7816bf8f01cfea414140de5dae2223b00361a396177a9cb410ff61f20015ad"},
		{"abcdbcdecdefdefgefghfghighijhijkijkljklmklmnlmnomnopnopq", "248d6a61d20638b8e5c026930c3e6039a33ce45964ff2167f6ecedd419db06c1"},
		{strings.Repeat("a", 1000000), "cdc76e5c9914fb9281a1c7e284d73e67f1809a48a497200e046d39ccc7112cd0"},
	}
	for _, c := range cases {
		if got := Hex(Sum([]byte(c.text))); got != c.sum {
			t.Errorf("Sum(%.20q) = %s, not %s", c.text, got, c.sum)
		}
	}
	if Sum(nil) != Sum([]byte{}) {
		t.Error("Sum tells nil from no bytes")
	}
}

// P1.1: every length about the edges of the padding, and some long ones, against the library's SHA-256.
func TestSumOfEveryLength(t *testing.T) {
	lengths := []int{1 << 12, 1<<16 - 1, 1 << 16, 1<<16 + 1}
	for n := range 400 {
		lengths = append(lengths, n)
	}
	for _, n := range lengths {
		for _, b := range [][]byte{someBytes(n), make([]byte, n), bytes.Repeat([]byte{0xff}, n)} {
			if got := Sum(b); got != api.Hash(sha256.Sum256(b)) {
				t.Errorf("Sum of %d bytes = %x", n, got)
			}
		}
	}
}

// P1.1: the length in bits goes beyond 32 bits without being cut.
func TestLengthBytes(t *testing.T) {
	got := lastBlocks(nil, 1<<31-1)
	want := append(append([]byte{0x80}, make([]byte, 55)...), 0, 0, 0, 3, 0xff, 0xff, 0xff, 0xf8)
	if !bytes.Equal(got, want) {
		t.Errorf("lastBlocks = %x", got)
	}
}

// P1.1: the round numbers are what they are said to be.
func TestRoundNumbers(t *testing.T) {
	i := 0
	for p := int64(2); i < 64; p++ {
		if !big.NewInt(p).ProbablyPrime(0) {
			continue
		}
		if got, want := roundNumbers()[i], cubeRootBits(p); got != want {
			t.Errorf("the number %d is %x, not %x", i, got, want)
		}
		i++
	}
}

// cubeRootBits are the first 32 bits behind the point of p's cube root.
func cubeRootBits(p int64) uint32 {
	scaled := new(big.Int).Lsh(big.NewInt(p), 96)
	low, high := uint64(0), uint64(1)<<40
	for high-low > 1 {
		mid := low + (high-low)/2
		x := new(big.Int).SetUint64(mid)
		if new(big.Int).Exp(x, big.NewInt(3), nil).Cmp(scaled) <= 0 {
			low = mid
		} else {
			high = mid
		}
	}
	return uint32(low)
}

// P1.1: Leaf.
func TestLeaf(t *testing.T) {
	for n := range 200 {
		b := someBytes(n)
		if got := Leaf(b); got != api.Hash(sha256.Sum256(append([]byte{0}, b...))) {
			t.Errorf("Leaf of %d bytes = %x", n, got)
		}
	}
	if Leaf(nil) != Leaf([]byte{}) || Leaf(nil) == Sum(nil) {
		t.Error("Leaf of no bytes")
	}
}

// P1.1: Pair, whose order matters.
func TestPair(t *testing.T) {
	var full api.Hash
	for i := range full {
		full[i] = 0xff
	}
	sums := []api.Hash{{}, full, Sum([]byte("x")), Sum([]byte("y"))}
	for i, x := range sums {
		for j, y := range sums {
			b := append(append([]byte{1}, x[:]...), y[:]...)
			if got := Pair(x, y); got != api.Hash(sha256.Sum256(b)) {
				t.Errorf("Pair(%x, %x) = %x", x, y, got)
			}
			if i != j && Pair(x, y) == Pair(y, x) {
				t.Errorf("Pair(%x, %x) is the same either way round", x, y)
			}
			if Pair(x, y) == Leaf(b[1:]) {
				t.Errorf("Pair(%x, %x) is a leaf's", x, y)
			}
		}
	}
}

// P1.1: Rounds, at the edges and against the padding's own rule.
func TestRounds(t *testing.T) {
	edges := [][2]int{{0, 1}, {1, 1}, {55, 1}, {56, 2}, {63, 2}, {64, 2}, {65, 2}, {119, 2}, {120, 3}, {128, 3}, {1 << 16, 1025}}
	for _, c := range edges {
		if got := Rounds(make([]byte, c[0])); got != c[1] {
			t.Errorf("Rounds of %d bytes = %d, not %d", c[0], got, c[1])
		}
	}
	for n := range 1000 {
		padded := n + 1
		for (padded+8)%64 != 0 {
			padded++
		}
		if got := Rounds(make([]byte, n)); got != (padded+8)/64 {
			t.Errorf("Rounds of %d bytes = %d, not %d", n, got, (padded+8)/64)
		}
	}
	if Rounds(nil) != 1 {
		t.Errorf("Rounds(nil) = %d", Rounds(nil))
	}
}

// P1.1: what is handed in stays as it is, the room behind its end too, and what stands there does not matter.
func TestBytesStay(t *testing.T) {
	for n := range 200 {
		short, whole := withRoom(someBytes(n))
		kept := bytes.Clone(whole)
		sum, leaf, rounds := Sum(short), Leaf(short), Rounds(short)
		if !bytes.Equal(whole, kept) {
			t.Fatalf("%d bytes did not stay, or the room behind them", n)
		}
		exact := bytes.Clone(short)
		if sum != Sum(exact) || leaf != Leaf(exact) || rounds != Rounds(exact) {
			t.Fatalf("the room behind %d bytes is to be seen in an answer", n)
		}
	}
}
