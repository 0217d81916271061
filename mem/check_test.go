package mem

import (
	"math/rand"
	"slices"
	"testing"

	"proctor/api"
)

// wantChecks holds Check against the chapter's words, of one address, one word and one path.
func wantChecks(t *testing.T, root api.Hash, at, w uint64, path []api.Hash) bool {
	t.Helper()
	n := len(path)
	want := n <= 12 && at < []uint64{1, 2, 4, 8, 16, 32, 64, 128, 256, 512, 1024, 2048, 4096}[min(n, 12)] && foldBy(at, w, path) == root
	if got := Check(root, at, w, path...); got != want {
		t.Fatalf("Check(at %d, %d sums) = %v, want %v", at, n, got, want)
	}
	return want
}

// pathsOf are paths of every length about the greatest that may be, and some far above it.
func pathsOf() [][]api.Hash {
	var all [][]api.Hash
	for _, n := range []int{0, 1, 2, 3, 10, 11, 12, 13, 14, 15, 16, 17, 31, 32, 33, 63, 64, 65, 128} {
		all = append(all, sums(n), make([]api.Hash, n), slices.Repeat([]api.Hash{sum(3)}, n))
	}
	return all
}

// P11.2: an address and a path of which the word folds to the root, at the edges of what may be; where the length or the address alone is wrong, too.
func TestCheckEdges(t *testing.T) {
	for _, path := range pathsOf() {
		n := len(path)
		behind := uint64(1) << min(n, 63)
		for _, at := range []uint64{0, 1, behind/2 - 1, behind / 2, behind - 1, behind, behind + 1, 2 * behind, 4095, 4096, 4097, 1 << 31, 1 << 32, 1<<32 | (behind - 1), 1 << 63, 1<<63 | 1, most - 1, most} {
			for _, w := range []uint64{0, 7, most} {
				// The root to which it would fold: so the length and the address alone decide.
				root := foldBy(at, w, path)
				if wantChecks(t, root, at, w, path) != (n <= 12 && at < behind) {
					t.Fatalf("%d sums, at %d", n, at)
				}
				wantChecks(t, root, at, w+1, path)
				wantChecks(t, root, at, w^1<<63, path)
				wantChecks(t, root, at^1, w, path)
				wantChecks(t, zero, at, w, path)
				wantChecks(t, sum(9), at, w, path)
				root[31] ^= 1
				wantChecks(t, root, at, w, path)
			}
		}
	}
}

// P11.2: no path at all, nil or empty.
func TestCheckWithoutPath(t *testing.T) {
	root, _ := Root(7)
	if !Check(root, 0, 7) || !Check(root, 0, 7, nil...) || !Check(root, 0, 7, []api.Hash{}...) {
		t.Errorf("a memory of one word doesn't check")
	}
	if Check(root, 1, 7) || Check(root, most, 7) || Check(root, 0, 8) || Check(zero, 0, 7) || Check(zero, 0, 0) {
		t.Errorf("what is not there checks")
	}
}

// bentPaths are paths that are not that one.
func bentPaths(path []api.Hash) [][]api.Hash {
	turned := slices.Clone(path)
	slices.Reverse(turned)
	all := [][]api.Hash{turned, append(slices.Clone(path), zero), append(slices.Clone(path), sum(1)), append([]api.Hash{sum(2)}, path...), slices.Concat(path, path)}
	for i := range path {
		bent := slices.Clone(path)
		bent[i][i%32] ^= 1 << (i % 8)
		all = append(all, path[:i], path[i+1:], bent, slices.Delete(slices.Clone(path), i, i+1))
	}
	return all
}

// P11.2, P11.4: each word of a memory checks with its path, and with no other one, nor elsewhere, nor another word.
func TestCheckOfMemories(t *testing.T) {
	r := rand.New(rand.NewSource(6))
	for _, size := range []int{1, 2, 4, 8, 64, 2048, 4096} {
		words := rising(size)
		m := made(t, words...)
		root := m.Root()
		for _, at := range someAddresses(r, size) {
			path, _ := m.Prove(at)
			if !wantChecks(t, root, at, words[at], path) {
				t.Fatalf("the word at %d of %d words doesn't check", at, size)
			}
			for _, bent := range bentPaths(path) {
				if wantChecks(t, root, at, words[at], bent) && !slices.Equal(bent, path) {
					t.Fatalf("another path checks at %d", at)
				}
			}
			for bit := range 64 {
				if wantChecks(t, root, at, words[at]^1<<bit, path) {
					t.Fatalf("another word checks at %d", at)
				}
			}
			for _, other := range append(wrongAddresses(size), at^1, at^uint64(size/2), at+uint64(size), at|1<<63) {
				if wantChecks(t, root, other, words[at], path) && other != at {
					t.Fatalf("the word at %d checks at %d", at, other)
				}
			}
		}
	}
}

// P11.2: a tree of thirteen levels has a root, and words that fold to it; yet none of them checks.
func TestCheckTooDeep(t *testing.T) {
	words := rising(8192)
	root := rootBy(words)
	for _, at := range []uint64{0, 1, 4095, 4096, 8190, 8191} {
		path := pathBy(words, at)
		if foldBy(at, words[at], path) != root || Check(root, at, words[at], path...) {
			t.Errorf("the word at %d", at)
		}
		// Its half is a memory.
		half := foldBy(at%4096, words[at], path[:12])
		if !Check(half, at%4096, words[at], path[:12]...) {
			t.Errorf("the word at %d of its half", at)
		}
	}
}

// P11.2: all words that are alike: whatever the address, the path is the same, and checks.
func TestCheckOfWordsAlike(t *testing.T) {
	for _, size := range sizes()[:9] {
		m := made(t, slices.Repeat([]uint64{most}, size)...)
		path, _ := m.Prove(0)
		for at := range uint64(size) {
			if !wantChecks(t, m.Root(), at, most, path) {
				t.Fatalf("the word at %d of %d", at, size)
			}
		}
		wantChecks(t, m.Root(), uint64(size), most, path)
	}
}
