package mem

import (
	"crypto/sha256"
	"math/rand"
	"slices"
	"testing"

	"proctor/api"
	"proctor/merkle"
	"proctor/sha"
)

// P11.1, P11.2: the chapter's examples.
func TestExamples(t *testing.T) {
	leaf := func(w byte) api.Hash { return sha.Leaf([]byte{0, 0, 0, 0, 0, 0, 0, w}) }
	if r, e := Root(7); r != leaf(7) || e != api.OK {
		t.Errorf("Root(7) = %x, %d", r, e)
	}
	pair, e := Root(1, 2)
	if pair != sha.Pair(leaf(1), leaf(2)) || e != api.OK {
		t.Errorf("Root(1, 2) = %x, %d", pair, e)
	}
	if m, e := New(1, 2, 3); m != nil || e != api.ErrArg {
		t.Errorf("New(1, 2, 3): %d", e)
	}
	if r, e := Root(); r != zero || e != api.ErrArg {
		t.Errorf("Root() = %x, %d", r, e)
	}
	if w, e := made(t, 1, 2).Get(2); w != 0 || e != api.ErrArg {
		t.Errorf("Get(2) = %d, %d", w, e)
	}
	if !Check(pair, 1, 2, leaf(1)) || Check(pair, 1, 3, leaf(1)) {
		t.Errorf("Check")
	}
}

// P11.1, P11.2: memories of every size that may be, of words of all kinds.
func TestSizes(t *testing.T) {
	r := rand.New(rand.NewSource(1))
	for depth, size := range sizes() {
		for _, words := range [][]uint64{rising(size), make([]uint64, size), slices.Repeat([]uint64{most}, size)} {
			m := made(t, words...)
			wantWords(t, m, words, someAddresses(r, size)...)
			if path, _ := m.Prove(uint64(size - 1)); len(path) != depth {
				t.Errorf("a path of %d sums at the depth %d", len(path), depth)
			}
			wantRefused(t, m, words)
			wantWords(t, m, words, 0)
		}
	}
}

// P11.1, P11.2: there are no memories of other sizes; no words are nil, empty, or not handed in.
func TestWrongSizes(t *testing.T) {
	lists := [][]uint64{nil, {}, make([]uint64, 0, 4), rising(4)[:0]}
	for _, size := range wrongSizes() {
		lists = append(lists, rising(size))
	}
	for size := range 140 {
		if !slices.Contains(sizes(), size) {
			lists = append(lists, make([]uint64, size))
		}
	}
	for _, words := range lists {
		if m, e := New(words...); m != nil || e != api.ErrArg {
			t.Errorf("New of %d words: %d", len(words), e)
		}
		if r, e := Root(words...); r != zero || e != api.ErrArg {
			t.Errorf("Root of %d words = %x, %d", len(words), r, e)
		}
	}
	if m, e := New(); m != nil || e != api.ErrArg {
		t.Errorf("New(): %d", e)
	}
}

// P11.2: each byte of a word has its place in the leaf.
func TestLeaves(t *testing.T) {
	for bit := range 64 {
		w := uint64(1) << bit
		b := make([]byte, 9)
		b[8-bit/8] = 1 << (bit % 8)
		if r, e := Root(w); r != sha256.Sum256(b) || e != api.OK {
			t.Errorf("Root(%x) = %x, %d", w, r, e)
		}
	}
	if r, _ := Root(0x0102030405060708); r != sha256.Sum256([]byte{0, 1, 2, 3, 4, 5, 6, 7, 8}) {
		t.Errorf("Root = %x", r)
	}
}

// P11.1: a memory that is not there answers ErrNil whatever the address, and stays away.
func TestMemoryThatIsNotThere(t *testing.T) {
	failed, _ := New(1, 2, 3)
	for _, m := range []*Memory{nil, {}, new(Memory), failed} {
		for _, at := range []uint64{0, 1, 2, 4095, 4096, 1 << 63, most} {
			if w, e := m.Get(at); w != 0 || e != api.ErrNil {
				t.Errorf("Get(%d) = %d, %d", at, w, e)
			}
			if path, e := m.Prove(at); len(path) != 0 || e != api.ErrNil {
				t.Errorf("Prove(%d) = %x, %d", at, path, e)
			}
			for _, w := range []uint64{0, 7, most} {
				if e := m.Set(at, w); e != api.ErrNil {
					t.Errorf("Set(%d): %d", at, e)
				}
			}
			if m.Root() != zero || len(m.Words()) != 0 {
				t.Errorf("Root = %x, %d words", m.Root(), len(m.Words()))
			}
		}
	}
}

// P11.1: what is set stands there, and nothing else changes; the same word once more, 0 and the greatest word too.
func TestSet(t *testing.T) {
	r := rand.New(rand.NewSource(2))
	for _, size := range sizes() {
		words := rising(size)
		m := made(t, words...)
		for _, at := range someAddresses(r, size) {
			for _, w := range []uint64{words[at], 0, 0, most, most, 5, words[at] + 1<<63, 0} {
				if e := m.Set(at, w); e != api.OK {
					t.Fatalf("Set(%d): %d", at, e)
				}
				words[at] = w
				if got, e := m.Get(at); got != w || e != api.OK {
					t.Fatalf("Get(%d) = %d, %d, want %d", at, got, e, w)
				}
				if size <= 64 {
					wantWords(t, m, words, at, 0, uint64(size-1))
				}
			}
			wantWords(t, m, words, at)
		}
	}
}

// P11.1: a word that is set back brings the root back.
func TestSetBack(t *testing.T) {
	for _, size := range sizes()[:9] {
		words := rising(size)
		m := made(t, words...)
		root := m.Root()
		for at := range uint64(size) {
			m.Set(at, words[at]^1)
			if m.Root() == root {
				t.Fatalf("Set(%d) of %d words leaves the root", at, size)
			}
			m.Set(at, words[at])
			if m.Root() != root {
				t.Fatalf("Set(%d) back of %d words: another root", at, size)
			}
		}
		wantWords(t, m, words, 0)
	}
}

// P11.1: every address of a memory, from the first on, from the last on, and at random, to the words of another memory.
func TestSetEveryAddress(t *testing.T) {
	r := rand.New(rand.NewSource(3))
	for _, size := range sizes() {
		first, last := rising(size), slices.Repeat([]uint64{9}, size)
		upward := r.Perm(size)
		slices.Sort(upward)
		downward := slices.Clone(upward)
		slices.Reverse(downward)
		for _, order := range [][]int{upward, downward, r.Perm(size)} {
			m := made(t, first...)
			for _, at := range order {
				if e := m.Set(uint64(at), last[at]); e != api.OK {
					t.Fatalf("Set(%d): %d", at, e)
				}
			}
			wantWords(t, m, last, someAddresses(r, size)...)
		}
	}
}

// P11.1: paths are layer 4's, of every address, behind Sets in any order.
func TestPathsAreLayerFours(t *testing.T) {
	r := rand.New(rand.NewSource(4))
	for depth, size := range sizes() {
		words := rising(size)
		m := made(t, words...)
		for round := range 4 {
			addresses := someAddresses(r, size)
			if size <= 128 {
				addresses = nil
				for at := range uint64(size) {
					addresses = append(addresses, at)
				}
			}
			for _, at := range addresses[:min(len(addresses), 200/(depth+1))] {
				want, _ := merkle.Proof(depth, leavesBy(words), int(at))
				if path, e := m.Prove(at); !slices.Equal(path, want) || e != api.OK {
					t.Fatalf("Prove(%d) of %d words behind %d rounds = %x, %d", at, size, round, path, e)
				}
			}
			for range 1 + r.Intn(size) {
				at := r.Intn(size)
				words[at] = r.Uint64() >> r.Intn(64)
				m.Set(uint64(at), words[at])
			}
		}
	}
}

// P11.1: refused Sets change nothing, wherever they come among others.
func TestRefusedSets(t *testing.T) {
	r := rand.New(rand.NewSource(5))
	for _, size := range sizes()[:8] {
		words := rising(size)
		m, twin := made(t, words...), made(t, words...)
		for range 20 {
			wantRefused(t, m, words)
			at, w := uint64(r.Intn(size)), r.Uint64()
			if m.Set(at, w) != api.OK || twin.Set(at, w) != api.OK {
				t.Fatalf("Set(%d)", at)
			}
			words[at] = w
			if m.Root() != twin.Root() {
				t.Fatalf("refused Sets of %d words are to be seen", size)
			}
			wantWords(t, m, words, at, 0, uint64(size-1))
		}
	}
}

// P11.1: memories know nothing of each other.
func TestMemoriesApart(t *testing.T) {
	words := rising(16)
	m, n, o := made(t, words...), made(t, words...), made(t, words[:8]...)
	other := slices.Clone(words)
	for at := range uint64(16) {
		other[at] = at
		n.Set(at, at)
		wantWords(t, m, words, at)
		wantWords(t, n, other, at)
		wantWords(t, o, words[:8], at%8)
	}
}
