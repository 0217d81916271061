package mem

import (
	"encoding/binary"
	"math/rand"
	"slices"
	"testing"

	"proctor/api"
	"proctor/collide"
	"proctor/merkle"
	"proctor/vm"
)

// P11.4: memories at random, Sets at random, refused ones among them, held against the words as they stand all the way.
func TestRandomSets(t *testing.T) {
	r := rand.New(rand.NewSource(7))
	for range 400 {
		size := sizes()[r.Intn(8)]
		words := make([]uint64, size)
		for i := range words {
			words[i] = r.Uint64() >> r.Intn(64)
		}
		m := made(t, words...)
		for range 30 {
			at, w := uint64(r.Intn(size)), r.Uint64()>>r.Intn(64)
			switch r.Intn(6) {
			case 0:
				at = wrongAddresses(size)[r.Intn(17)]
			case 1:
				w = words[at]
			case 2:
				w = []uint64{0, most}[r.Intn(2)]
			}
			e := m.Set(at, w)
			if (e == api.OK) != (at < uint64(size)) || e != api.OK && e != api.ErrArg {
				t.Fatalf("Set(%d) of %d words: %d", at, size, e)
			}
			if e == api.OK {
				words[at] = w
			}
			if got, f := Root(m.Words()...); got != m.Root() || f != api.OK {
				t.Fatalf("Root is not that of the words")
			}
			wantWords(t, m, words, uint64(r.Intn(size)))
		}
	}
}

// P11.4: each word of a memory checks with its path, of the greatest one too.
func TestEachWordChecks(t *testing.T) {
	for _, size := range []int{1, 2, 4, 32, 1024, 4096} {
		words := rising(size)
		m := made(t, make([]uint64, size)...)
		for at, w := range words {
			m.Set(uint64(at), w)
		}
		root := m.Root()
		if root != rootBy(words) {
			t.Fatalf("Root of %d words", size)
		}
		for at, w := range words {
			path, e := m.Prove(uint64(at))
			if e != api.OK || !Check(root, uint64(at), w, path...) || Check(root, uint64(at), w+1, path...) {
				t.Fatalf("the word at %d of %d words", at, size)
			}
		}
	}
}

// P11.4: a path that was told ahead of a Set tells the root behind it, with the new word in its place (layer 4's Swap).
func TestSetSwaps(t *testing.T) {
	r := rand.New(rand.NewSource(8))
	for _, size := range sizes() {
		words := rising(size)
		m := made(t, words...)
		for range 20 {
			at, w := r.Intn(size), r.Uint64()
			path, _ := m.Prove(uint64(at))
			want, ok := merkle.Swap(m.Root(), at, leafBy(words[at]), leafBy(w), path...)
			if e := m.Set(uint64(at), w); e != api.OK || !ok || m.Root() != want {
				t.Fatalf("Set(%d) of %d words: %d", at, size, e)
			}
			words[at] = w
			if after, _ := m.Prove(uint64(at)); !slices.Equal(after, path) {
				t.Fatalf("Set(%d) of %d words changed its own path", at, size)
			}
		}
	}
}

// exhibited says whether two words at one address come to one root with collide telling why.
func exhibited(at uint64, a uint64, pa []api.Hash, b uint64, pb []api.Hash) bool {
	x, y, ok := collide.Bind(int(at), leafBy(a), pa, leafBy(b), pb)
	return ok && !slices.Equal(x, y)
}

// P11.4: unlike memories of one depth have unlike roots.
func TestUnlikeMemories(t *testing.T) {
	for depth, size := range sizes()[:8] {
		words := rising(size)
		seen := map[api.Hash][]uint64{}
		for at := range words {
			for bit := 0; bit < 64; bit += 1 + depth {
				other := slices.Clone(words)
				other[at] ^= 1 << bit
				root, _ := Root(other...)
				if _, is := seen[root]; is {
					t.Fatalf("two memories of %d words have one root", size)
				}
				seen[root] = other
			}
		}
		for at := range size - 1 {
			other := slices.Clone(words)
			other[at], other[at+1] = other[at+1], other[at]
			root, _ := Root(other...)
			if _, is := seen[root]; is {
				t.Fatalf("two memories of %d words have one root", size)
			}
			seen[root] = other
		}
		if root, _ := Root(words...); seen[root] != nil {
			t.Fatalf("two memories of %d words have one root", size)
		}
	}
}

// P11.4: of two memories, the paths of a word that differs bind nothing, as their roots are unlike.
func TestUnlikeMemoriesBind(t *testing.T) {
	for _, size := range sizes()[:6] {
		words := rising(size)
		m := made(t, words...)
		for at := range uint64(size) {
			n := made(t, words...)
			n.Set(at, words[at]+1)
			pm, _ := m.Prove(at)
			pn, _ := n.Prove(at)
			if exhibited(at, words[at], pm, words[at]+1, pn) || m.Root() == n.Root() {
				t.Fatalf("memories of %d words that differ at %d", size, at)
			}
		}
	}
}

// P11.3, P11.4: along a run a memory that takes what each step writes has the commitment of the machine.
func TestRunsAreCommitted(t *testing.T) {
	code := []api.Code{{Op: api.LI, A: 1, Imm: 9}, {Op: api.LI, A: 2, Imm: 1}, {Op: api.LI, A: 3, Imm: 28}, {Op: api.ST, A: 1, B: 1, Imm: 16}, {Op: api.HASH, A: 3, B: 3, C: 3}, {Op: api.SUB, A: 1, B: 1, C: 2}, {Op: api.JNZ, A: 1, Imm: 3}, {Op: api.HALT}}
	at, e := vm.Load(32, code)
	if e != api.OK {
		t.Fatal(e)
	}
	m := made(t, at.Mem...)
	seen := map[api.Hash]int{}
	for step := 0; ; step++ {
		for i, w := range at.Mem {
			if old, _ := m.Get(uint64(i)); old != w {
				m.Set(uint64(i), w)
			}
		}
		whole, e := Commit(at)
		parts, f := Parts(at.PC, at.Regs, at.Status, 5, m.Root())
		if whole != parts || e != api.OK || f != api.OK {
			t.Fatalf("the step %d: %d, %d", step, e, f)
		}
		if k, is := seen[whole]; is {
			t.Fatalf("the steps %d and %d have one commitment", k, step)
		}
		seen[whole] = step
		if at.Status != api.Running {
			break
		}
		at, _ = vm.Step(at, nil)
	}
	if at.Status != api.Halted || len(seen) < 30 {
		t.Errorf("Status %d behind %d steps", at.Status, len(seen)-1)
	}
}

// P11.1, P11.4: whatever the words, whatever is set.
func FuzzMemory(f *testing.F) {
	f.Add(uint8(0), []byte{}, []byte{})
	f.Add(uint8(1), []byte{0, 0, 0, 0, 0, 0, 0, 1}, []byte{1, 7, 1, 7, 0, 255, 9, 9})
	f.Add(uint8(5), []byte("some words that stand in the memory"), []byte("and some that are set"))
	f.Add(uint8(13), []byte{}, []byte{})
	f.Fuzz(func(t *testing.T, depth uint8, plain, sets []byte) {
		words := make([]uint64, 1<<(depth%9))
		for i := 0; i < len(words) && 8*i+8 <= len(plain); i++ {
			words[i] = binary.BigEndian.Uint64(plain[8*i:])
		}
		m := made(t, words...)
		for i := 0; i+1 < len(sets) && i < 40; i += 2 {
			at, w := uint64(sets[i])*uint64(len(words))/200, uint64(sets[i+1])*0x0101010101010101
			e := m.Set(at, w)
			if at >= uint64(len(words)) {
				if e != api.ErrArg {
					t.Fatalf("Set(%d): %d", at, e)
				}
				continue
			}
			words[at] = w
			wantWords(t, m, words, at)
		}
		wantWords(t, m, words, 0, uint64(len(words)-1))
		wantRefused(t, m, words)
		wantWords(t, m, words)
		cut := words[:len(words)*int(depth)/256]
		if got, e := New(cut...); (e == api.OK) != slices.Contains(sizes(), len(cut)) || (got != nil) != (e == api.OK) {
			t.Fatalf("New of %d words: %d", len(cut), e)
		}
	})
}

// P11.2, P11.4: whatever the path: if it checks against a memory's root, it is the word's own, unless two byte strings with one sum are exhibited.
func FuzzCheck(f *testing.F) {
	f.Add(uint8(0), uint64(0), uint64(1), []byte{}, uint8(0))
	f.Add(uint8(3), uint64(5), uint64(7), []byte{1, 2}, uint8(3))
	f.Add(uint8(12), uint64(4095), uint64(0), []byte{}, uint8(12))
	f.Add(uint8(1), uint64(most), uint64(most), []byte("0123456789abcdef0123456789abcdef0"), uint8(13))
	f.Fuzz(func(t *testing.T, depth uint8, at, w uint64, bend []byte, length uint8) {
		words := rising(1 << (depth % 8))
		m := made(t, words...)
		place := at % uint64(len(words))
		own, _ := m.Prove(place)
		path := slices.Clone(own)
		for len(path) < int(length%20) {
			path = append(path, sum(len(path)))
		}
		if int(length)%3 == 0 {
			path = path[:min(len(path), int(length%20))]
		}
		for i, b := range bend {
			if len(path) > 0 {
				path[i/32%len(path)][i%32] ^= b
			}
		}
		wantChecks(t, foldBy(at, w, path), at, w, path)
		wantChecks(t, m.Root(), at, w, path)
		for _, word := range []uint64{w, words[place]} {
			if wantChecks(t, m.Root(), place, word, path) && (word != words[place] || !slices.Equal(path, own)) && !exhibited(place, word, path, words[place], own) {
				t.Fatalf("a word that is not there checks at %d", place)
			}
		}
	})
}

// P11.3: whatever the configuration.
func FuzzParts(f *testing.F) {
	f.Add(uint64(0), uint64(0), uint8(0), 0, []byte{})
	f.Add(uint64(258), uint64(1<<56), uint8(2), 12, []byte("root"))
	f.Add(uint64(most), uint64(most), uint8(3), 13, []byte{})
	f.Add(uint64(1), uint64(1), uint8(255), -1, []byte{})
	f.Fuzz(func(t *testing.T, pc, r uint64, status uint8, depth int, plain []byte) {
		var root api.Hash
		copy(root[:], plain)
		regs := mixed()
		regs[r%16] = r
		wantParts(t, pc, regs, api.Status(status), depth, root)
		wantParts(t, pc, regs, api.Status(status%3), depth, root)
		wantParts(t, pc, regs, api.Status(status%3), (depth%13+13)%13, root)
	})
}
