package collide

import (
	"crypto/sha256"
	"math/rand"
	"slices"
	"testing"

	"proctor/api"
)

// h is some sum, another one for each number.
func h(n int) api.Hash { return sha256.Sum256([]byte{byte(n), byte(n >> 8), byte(n >> 16), 'h'}) }

// some are n sums.
func some(n int) []api.Hash {
	l := make([]api.Hash, n)
	for i := range l {
		l[i] = h(i)
	}
	return l
}

// spoilt is a sum with one bit turned.
func spoilt(x api.Hash, bit int) api.Hash {
	x[bit/8] ^= 1 << (bit % 8)
	return x
}

// en is bytes, and a sum that is said to be theirs.
func en(sum api.Hash, b ...byte) api.Hashed { return api.Hashed{Bytes: b, Sum: sum} }

// findOf is Find by holding each two entries against each other.
func findOf(l []api.Hashed) (int, int, bool) {
	for j := range l {
		for i := range j {
			if l[i].Sum == l[j].Sum && string(l[i].Bytes) != string(l[j].Bytes) {
				return i, j, true
			}
		}
	}
	return 0, 0, false
}

func wantFind(t *testing.T, what string, l []api.Hashed, i, j int, ok bool) {
	t.Helper()
	if a, b, found := Find(l...); a != i || b != j || found != ok {
		t.Errorf("%s: Find = %d, %d, %v, not %d, %d, %v", what, a, b, found, i, j, ok)
	}
}

// P5.1: the document's examples, and entries of one kind and another.
func TestFindOfExamples(t *testing.T) {
	s, u := h(1), h(2)
	var z api.Hash
	for _, c := range []struct {
		what string
		l    []api.Hashed
		i, j int
		ok   bool
	}{
		{"the first example", []api.Hashed{en(s, 1), en(u, 2), en(s, 3)}, 0, 2, true},
		{"the second example", []api.Hashed{en(s, 1), en(s, 1)}, 0, 0, false},
		{"nil", nil, 0, 0, false},
		{"no entries", []api.Hashed{}, 0, 0, false},
		{"one entry", []api.Hashed{en(s, 1)}, 0, 0, false},
		{"one zero entry", []api.Hashed{{}}, 0, 0, false},
		{"zero entries", []api.Hashed{{}, {}, {}}, 0, 0, false},
		{"the zero sum", []api.Hashed{en(z), en(z, 0)}, 0, 1, true},
		{"unlike bytes, unlike sums", []api.Hashed{en(s, 1), en(u, 2)}, 0, 0, false},
		{"one bytes, unlike sums", []api.Hashed{en(s, 1), en(u, 1)}, 0, 0, false},
		{"no bytes and none", []api.Hashed{{Bytes: nil, Sum: s}, {Bytes: []byte{}, Sum: s}}, 0, 0, false},
		{"no bytes and a nought", []api.Hashed{en(s), en(s, 0)}, 0, 1, true},
		{"a nought and no bytes", []api.Hashed{en(s, 0), en(s)}, 0, 1, true},
		{"one begins as the other", []api.Hashed{en(s, 1, 2), en(s, 1)}, 0, 1, true},
		{"the other begins as one", []api.Hashed{en(s, 1), en(s, 1, 2)}, 0, 1, true},
		{"the least later one, not the least earlier one", []api.Hashed{en(s, 1), en(u, 2), en(u, 3), en(s, 4)}, 1, 2, true},
		{"the least earlier one of some that are the same", []api.Hashed{en(u, 9), en(s, 1), en(s, 1), en(s, 1), en(s, 2)}, 1, 4, true},
		{"two that collide, and more behind them", []api.Hashed{en(s, 1), en(s, 2), en(s, 3), en(u, 1), en(u, 2)}, 0, 1, true},
		{"bytes that come back", []api.Hashed{en(s, 1), en(s, 2), en(s, 1)}, 0, 1, true},
		{"some within others", []api.Hashed{en(u, 1), en(s, 1), en(s, 1), en(u, 1), en(u, 2), en(s, 2)}, 0, 4, true},
	} {
		wantFind(t, c.what, c.l, c.i, c.j, c.ok)
	}
}

// P5.1: all lists of up to six entries of two sums and three byte strings.
func TestFindInShortLists(t *testing.T) {
	kinds := []api.Hashed{en(h(1)), en(h(1), 0), en(h(1), 0, 0), en(h(2)), en(h(2), 0), en(h(2), 0, 0)}
	var grow func(l []api.Hashed)
	grow = func(l []api.Hashed) {
		i, j, ok := findOf(l)
		wantFind(t, "a short list", l, i, j, ok)
		if len(l) < 6 && !t.Failed() {
			for _, k := range kinds {
				grow(append(slices.Clone(l), k))
			}
		}
	}
	grow(nil)
}

// P5.1: sums that differ in one bit are unlike, bytes that differ in one bit too.
func TestFindSeesEachBit(t *testing.T) {
	s := h(1)
	for bit := range 256 {
		wantFind(t, "sums", []api.Hashed{en(s, 1), en(spoilt(s, bit), 2)}, 0, 0, false)
	}
	long := make([]byte, 100)
	for bit := range 8 * len(long) {
		other := slices.Clone(long)
		other[bit/8] ^= 1 << (bit % 8)
		wantFind(t, "bytes", []api.Hashed{{Bytes: long, Sum: s}, {Bytes: slices.Clone(long), Sum: s}, {Bytes: other, Sum: s}}, 0, 2, true)
	}
}

// P5.1: many entries with one sum, and many with a sum each.
func TestFindInLongLists(t *testing.T) {
	const n = 100000
	same, apart := make([]api.Hashed, n), make([]api.Hashed, n)
	for k := range n {
		same[k], apart[k] = en(h(1), 7, 7), en(h(k), byte(k))
	}
	wantFind(t, "one sum", same, 0, 0, false)
	wantFind(t, "one sum, and other bytes", append(slices.Clone(same), en(h(1), 7)), 0, n, true)
	wantFind(t, "other bytes, and one sum", append([]api.Hashed{en(h(1), 7)}, same...), 0, 1, true)
	wantFind(t, "a sum each", apart, 0, 0, false)
	wantFind(t, "a sum each, and all once more", slices.Concat(apart, apart), 0, 0, false)
	wantFind(t, "a sum each, and two of them unlike", append(slices.Clone(apart), en(h(n-1), 1, 2), en(h(0), 1, 2)), n-1, n, true)
}

// P5.1: lists of whatever entries.
func TestFindInSomeLists(t *testing.T) {
	r := rand.New(rand.NewSource(51))
	for range 3000 {
		l := make([]api.Hashed, r.Intn(60))
		sums := 1 + r.Intn(100)
		for k := range l {
			sum := r.Intn(sums)
			l[k] = en(h(sum), byte(sum))
			if r.Intn(40) == 0 {
				l[k].Bytes = make([]byte, r.Intn(4))
			}
		}
		i, j, ok := findOf(l)
		wantFind(t, "some list", l, i, j, ok)
	}
}

func FuzzFind(f *testing.F) {
	f.Add([]byte{})
	f.Add([]byte{0x11, 0x22, 0x13})
	f.Add([]byte{0x11, 0x22, 0x11, 0x23, 0x12})
	f.Fuzz(func(t *testing.T, b []byte) {
		var l []api.Hashed
		for _, c := range b[:min(len(b), 300)] {
			l = append(l, en(api.Hash{31: c >> 4}, make([]byte, c&15)...))
		}
		i, j, ok := findOf(l)
		wantFind(t, "a fuzzed list", l, i, j, ok)
	})
}
