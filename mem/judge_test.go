package mem

import (
	"bytes"
	"crypto/sha256"
	"encoding/binary"
	"math"
	"math/rand"
	"slices"
	"testing"

	"proctor/api"
)

// The second judge: the chapter's words once more, with trees cut in halves from the root down, the library's SHA-256 and the library's bytes of numbers.

const most = math.MaxUint64

var zero api.Hash

// sizes are how many words a memory may have.
func sizes() []int {
	return []int{1, 2, 4, 8, 16, 32, 64, 128, 256, 512, 1024, 2048, 4096}
}

// wrongSizes are how many words no memory has.
func wrongSizes() []int {
	return []int{0, 3, 5, 6, 7, 9, 12, 15, 17, 31, 33, 63, 65, 127, 129, 1000, 1023, 1025, 2047, 2049, 3072, 4095, 4097, 6144, 8191, 8192, 8193, 16384, 1 << 16}
}

// rising are n words, no two of them alike.
func rising(n int) []uint64 {
	l := make([]uint64, n)
	for i := range l {
		l[i] = uint64(i)*0x0123456789abcdef + 1
	}
	return l
}

// leafBy is the leaf of a word.
func leafBy(w uint64) api.Hash {
	return sha256.Sum256(binary.BigEndian.AppendUint64([]byte{0}, w))
}

func leavesBy(words []uint64) []api.Hash {
	var l []api.Hash
	for _, w := range words {
		l = append(l, leafBy(w))
	}
	return l
}

func pairBy(x, y api.Hash) api.Hash {
	return sha256.Sum256(slices.Concat([]byte{1}, x[:], y[:]))
}

// rootBy is the root of some words.
func rootBy(words []uint64) api.Hash {
	if len(words) == 1 {
		return leafBy(words[0])
	}
	half := len(words) / 2
	return pairBy(rootBy(words[:half]), rootBy(words[half:]))
}

// pathBy is the path of the word at an address.
func pathBy(words []uint64, at uint64) []api.Hash {
	if len(words) == 1 {
		return nil
	}
	half := uint64(len(words) / 2)
	if at < half {
		return append(pathBy(words[:half], at), rootBy(words[half:]))
	}
	return append(pathBy(words[half:], at-half), rootBy(words[:half]))
}

// foldBy is the root to which a word at an address folds with a path of whatever length.
func foldBy(at, w uint64, path []api.Hash) api.Hash {
	root := leafBy(w)
	for _, beside := range path {
		if at%2 == 0 {
			root = pairBy(root, beside)
		} else {
			root = pairBy(beside, root)
		}
		at /= 2
	}
	return root
}

// depthBy is the depth of the tree of so many words, which may be.
func depthBy(size int) int { return slices.Index(sizes(), size) }

// partsBy is the 171 bytes that are summed for a commitment.
func partsBy(pc uint64, regs [16]uint64, status, depth byte, root api.Hash) []byte {
	var b bytes.Buffer
	b.WriteByte(2)
	binary.Write(&b, binary.BigEndian, pc)
	binary.Write(&b, binary.BigEndian, regs)
	b.WriteByte(status)
	b.WriteByte(depth)
	b.Write(root[:])
	return b.Bytes()
}

// sum is some sum, another one for each number.
func sum(n int) api.Hash {
	return sha256.Sum256([]byte{byte(n), byte(n >> 8), byte(n >> 16), 's'})
}

// sums are n sums.
func sums(n int) []api.Hash {
	l := make([]api.Hash, n)
	for i := range l {
		l[i] = sum(i)
	}
	return l
}

// made is a memory that may be.
func made(t *testing.T, words ...uint64) *Memory {
	t.Helper()
	m, e := New(words...)
	if m == nil || e != api.OK {
		t.Fatalf("New of %d words: %d", len(words), e)
	}
	return m
}

// someAddresses are the first ones, the last ones, those about the halves, and some others of a memory of so many words.
func someAddresses(r *rand.Rand, size int) []uint64 {
	n := uint64(size)
	l := []uint64{0, n - 1, n / 2, (n - 1) / 2, n / 4, 1 % n}
	for range 3 {
		l = append(l, uint64(r.Intn(size)))
	}
	return l
}

// wrongAddresses are addresses that a memory of so many words has not, those with it that would be cut to one that it has.
func wrongAddresses(size int) []uint64 {
	n := uint64(size)
	return []uint64{n, n + 1, 2 * n, 2*n - 1 + n, 4096, 8192, 1 << 16, 1 << 31, 1<<31 - 1 + n, 1 << 32, 1<<32 + n - 1, 1 << 63, 1<<63 | (n - 1), 1<<63 - 1 + n, -n, most - 1, most}
}

// wantWords holds all that a memory tells of itself against the words that stand in it, its words at some addresses alone.
func wantWords(t *testing.T, m *Memory, words []uint64, addresses ...uint64) {
	t.Helper()
	root := rootBy(words)
	if !slices.Equal(m.Words(), words) {
		t.Fatalf("Words of %d words are others", len(words))
	}
	if got := m.Root(); got != root {
		t.Fatalf("Root = %x, want %x", got, root)
	}
	if got, e := Root(words...); got != root || e != api.OK {
		t.Fatalf("Root of the words = %x, %d", got, e)
	}
	for _, at := range addresses {
		if w, e := m.Get(at); w != words[at] || e != api.OK {
			t.Fatalf("Get(%d) = %d, %d, want %d", at, w, e, words[at])
		}
		path, e := m.Prove(at)
		if !slices.Equal(path, pathBy(words, at)) || e != api.OK {
			t.Fatalf("Prove(%d) = %x, %d", at, path, e)
		}
		if !Check(root, at, words[at], path...) {
			t.Fatalf("the word at %d doesn't check", at)
		}
	}
}

// wantRefused asks that a memory refuses addresses that it has not, and stays as it is.
func wantRefused(t *testing.T, m *Memory, words []uint64) {
	t.Helper()
	for _, at := range wrongAddresses(len(words)) {
		if w, e := m.Get(at); w != 0 || e != api.ErrArg {
			t.Fatalf("Get(%d) of %d words = %d, %d", at, len(words), w, e)
		}
		if path, e := m.Prove(at); len(path) != 0 || e != api.ErrArg {
			t.Fatalf("Prove(%d) of %d words = %x, %d", at, len(words), path, e)
		}
		for _, w := range []uint64{0, 1, most} {
			if e := m.Set(at, w); e != api.ErrArg {
				t.Fatalf("Set(%d) of %d words: %d", at, len(words), e)
			}
		}
	}
}
