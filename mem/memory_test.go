package mem

import (
	"slices"
	"testing"
	"unsafe"

	"proctor/api"
)

// held keeps lists where they are until they were held against each other.
var held []any

// overlap says whether two lists share memory, the room behind their ends with it.
func overlap[T any](a, b []T) bool {
	held = append(held, a, b)
	var one T
	size := unsafe.Sizeof(one)
	x, y := uintptr(unsafe.Pointer(unsafe.SliceData(a))), uintptr(unsafe.Pointer(unsafe.SliceData(b)))
	return x < y+uintptr(cap(b))*size && y < x+uintptr(cap(a))*size
}

// wantApart asks that no two of some lists share memory.
func wantApart[T any](t *testing.T, lists ...[]T) {
	t.Helper()
	for i, a := range lists {
		for j, b := range lists[:i] {
			if overlap(a, b) {
				t.Fatalf("the lists %d and %d share memory", j, i)
			}
		}
	}
	held = nil
}

// roomy is a list with filled room behind its end.
func roomy[T any](l []T, filler T) []T {
	return append(slices.Clone(l), slices.Repeat([]T{filler}, 40)...)[:len(l)]
}

// wholly is a list with the room behind its end, once more.
func wholly[T any](l []T) []T { return slices.Clone(l[:cap(l)]) }

// spoil overwrites a list and the room behind its end.
func spoil[T any](l []T, x T) {
	for i := range l[:cap(l)] {
		l[:cap(l)][i] = x
	}
}

// P11.1, P11.2, P11.3: words that are handed in stay, the room behind their end too, which is not to be seen in an answer.
func TestWordsStay(t *testing.T) {
	for _, size := range []int{0, 1, 2, 3, 4, 5, 7, 8, 31, 32, 33, 4095, 4096, 4097, 8192} {
		words := roomy(rising(size), 77)
		kept := wholly(words)
		m, e := New(words...)
		root, f := Root(words...)
		h, g := Commit(api.Machine{Mem: words})
		if slices.Contains(sizes(), size) {
			want := rootBy(rising(size))
			commitment, _ := Parts(0, [16]uint64{}, api.Running, depthBy(size), want)
			if e != api.OK || f != api.OK || g != api.OK || m.Root() != want || root != want || h != commitment {
				t.Fatalf("the room behind %d words is to be seen", size)
			}
			for at := range uint64(min(size, 40)) {
				m.Set(at, most)
				m.Set(uint64(size)-1-at, most)
				m.Set(uint64(size)+at, most)
				m.Prove(at)
			}
			m.Words()
		} else if e != api.ErrArg || f != api.ErrArg || g != api.ErrArg {
			t.Fatalf("%d words with room: %d, %d, %d", size, e, f, g)
		}
		if !slices.Equal(wholly(words), kept) {
			t.Fatalf("%d words did not stay", size)
		}
	}
}

// P11.1: words that are changed after they were handed in change no memory.
func TestChangedWords(t *testing.T) {
	for _, size := range sizes()[:8] {
		words := roomy(rising(size), 77)
		m, n := made(t, words...), made(t, words...)
		spoil(words, most)
		wantWords(t, m, rising(size), 0, uint64(size-1))
		m.Set(0, 5)
		if words[0] != most {
			t.Fatalf("a Set is to be seen in what was handed in")
		}
		wantWords(t, n, rising(size), 0, uint64(size-1))
	}
}

// P11.1: Words and paths are new memory each time: whoever changes them changes nothing, and they don't change by a Set.
func TestAnswersAreNew(t *testing.T) {
	for _, size := range sizes() {
		words := rising(size)
		handed := slices.Clone(words)
		m := made(t, handed...)
		at := uint64(size / 2)
		one, two := m.Words(), m.Words()
		first, _ := m.Prove(at)
		second, _ := m.Prove(at)
		beside, _ := m.Prove(at ^ uint64(size-1))
		wantApart(t, handed, one, two, m.things)
		wantApart(t, first, second, beside, m.levels)
		spoil(one, most)
		spoil(first, sum(9))
		_ = append(one, 1, 2, 3)
		_ = append(first, sum(1), sum(2))
		wantWords(t, m, words, at, 0, uint64(size-1))
		if !slices.Equal(two, words) || !slices.Equal(second, pathBy(words, at)) {
			t.Fatalf("a changed answer is to be seen in another one")
		}
		for i := range uint64(min(size, 20)) {
			m.Set(i, 3)
			m.Set(uint64(size)-1-i, 4)
		}
		if !slices.Equal(two, words) || !slices.Equal(second, pathBy(words, at)) {
			t.Fatalf("a Set is to be seen in what was told ahead of it")
		}
	}
}

// P11.2: paths that are handed to Check stay, the room behind their end too, which is not to be seen.
func TestPathsStay(t *testing.T) {
	for _, n := range []int{0, 1, 2, 11, 12, 13, 14, 64} {
		for _, at := range []uint64{0, 1, 1<<n - 1, 1 << n, most} {
			path := roomy(sums(n), sum(500))
			kept := wholly(path)
			root := foldBy(at, 7, path)
			wantChecks(t, root, at, 7, path)
			wantChecks(t, root, at, 8, path)
			wantChecks(t, foldBy(at, 7, path[:n+1]), at, 7, path)
			if !slices.Equal(wholly(path), kept) {
				t.Fatalf("%d sums did not stay", n)
			}
		}
	}
}

// P11.1: what is told does not hang on who asked ahead.
func TestAskingChangesNothing(t *testing.T) {
	words := rising(32)
	m, n := made(t, words...), made(t, words...)
	for at := range uint64(40) {
		m.Get(at)
		m.Prove(at)
		m.Root()
		m.Words()
		if m.Set(at, at) != n.Set(at, at) || m.Root() != n.Root() || !slices.Equal(m.Words(), n.Words()) {
			t.Fatalf("asking is to be seen at %d", at)
		}
	}
}
