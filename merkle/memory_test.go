package merkle

import (
	"slices"
	"testing"
	"unsafe"

	"proctor/api"
)

// span is where a list lies, the room behind its end with it.
type span struct{ begin, end uintptr }

func spanOf(l []api.Hash) span {
	begin := uintptr(unsafe.Pointer(unsafe.SliceData(l)))
	return span{begin, begin + uintptr(cap(l))*unsafe.Sizeof(api.Hash{})}
}

// held keeps lists where they are until they were held against each other.
var held [][]api.Hash

// wantApart finds two lists among some that share memory.
func wantApart(t *testing.T, lists ...[]api.Hash) {
	t.Helper()
	held = lists
	for i, l := range held {
		for j, m := range held[:i] {
			a, b := spanOf(l), spanOf(m)
			if cap(l) > 0 && cap(m) > 0 && a.begin < b.end && b.begin < a.end {
				t.Errorf("the lists %d and %d share memory", j, i)
			}
		}
	}
}

// roomy is sums with filled room behind their end.
func roomy(l []api.Hash) []api.Hash {
	loose := slices.Clone(l)
	for n := range 20 {
		loose = append(loose, h(5000+n))
	}
	return loose[:len(l)]
}

// wholly is sums with the room behind their end.
func wholly(l []api.Hash) []api.Hash { return slices.Clone(l[:cap(l)]) }

// P4.1: leaves that are handed in stay, the room behind their end too, which is not to be seen in an answer.
func TestLeavesStay(t *testing.T) {
	for depth := -1; depth < 6; depth++ {
		for n := range 1<<max(0, depth) + 2 {
			loose := roomy(some(n))
			kept := wholly(loose)
			r, e := Root(depth, loose...)
			if want, wantE := Root(depth, some(n)...); r != want || e != wantE || !slices.Equal(wholly(loose), kept) {
				t.Errorf("Root(%d) of %d leaves with room", depth, n)
			}
			for i := -1; i <= 1<<max(0, depth); i++ {
				p, e := Proof(depth, loose, i)
				if want, wantE := Proof(depth, some(n), i); !slices.Equal(p, want) || e != wantE || !slices.Equal(wholly(loose), kept) {
					t.Errorf("Proof(%d) of %d leaves with room, the leaf %d", depth, n, i)
				}
			}
		}
	}
}

// P4.2: proofs that are handed in stay, the room behind their end too, which is not to be seen in an answer.
func TestProofsStay(t *testing.T) {
	for n := range 19 {
		for _, i := range []int{-1, 0, 1<<n - 1, 1 << n} {
			tight, loose := slices.Clip(some(n)), roomy(some(n))
			kept := wholly(loose)
			want, wantE := Fold(i, h(8), tight...)
			if r, e := Fold(i, h(8), loose...); r != want || e != wantE {
				t.Errorf("Fold(%d) of %d sums with room = %x, %d", i, n, r, e)
			}
			if Check(want, i, h(8), loose...) != (wantE == api.OK) {
				t.Errorf("Check(%d) of %d sums with room", i, n)
			}
			wantSwapped, _ := Fold(i, h(9), tight...)
			if r, ok := Swap(want, i, h(8), h(9), loose...); r != wantSwapped || ok != (wantE == api.OK) {
				t.Errorf("Swap(%d) of %d sums with room = %x, %v", i, n, r, ok)
			}
			if !slices.Equal(wholly(loose), kept) {
				t.Errorf("%d sums did not stay", n)
			}
		}
	}
}

// P4.1: a proof is new memory, where it is but leaves too.
func TestProofsAreNew(t *testing.T) {
	for depth := range 7 {
		for _, n := range counts(depth) {
			leaves := roomy(some(n))
			kept := wholly(leaves)
			for _, i := range places(depth, n) {
				one, _ := Proof(depth, leaves, i)
				two, _ := Proof(depth, leaves, i)
				wantApart(t, leaves, one, two)
				for j := range one {
					one[j] = h(7000)
				}
				_ = append(one, h(7001), h(7002))
				if again, _ := Proof(depth, leaves, i); !slices.Equal(again, two) || !slices.Equal(wholly(leaves), kept) {
					t.Errorf("a changed proof of the leaf %d of %d at the depth %d is to be seen", i, n, depth)
				}
			}
		}
	}
}
