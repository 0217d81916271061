package merkle

import (
	"crypto/sha256"
	"math"
	"slices"
	"testing"

	"proctor/api"
)

// z is the leaf that was not given.
var z api.Hash

// h is some sum, another one for each number.
func h(n int) api.Hash { return sha256.Sum256([]byte{byte(n), byte(n >> 8), byte(n >> 16), 'h'}) }

// some are n sums.
func some(n int) []api.Hash {
	l := make([]api.Hash, n)
	for i := range l {
		l[i] = h(i)
	}
	return l
}

// pair is sha.Pair by the library's SHA-256.
func pair(x, y api.Hash) api.Hash {
	return sha256.Sum256(slices.Concat([]byte{1}, x[:], y[:]))
}

// full is all leaves of a tree.
func full(depth int, leaves []api.Hash) []api.Hash {
	return append(slices.Clone(leaves), make([]api.Hash, 1<<depth-len(leaves))...)
}

// rootOf is the root of all leaves of a tree, from the root down as the document tells it.
func rootOf(all []api.Hash) api.Hash {
	if len(all) == 1 {
		return all[0]
	}
	half := len(all) / 2
	return pair(rootOf(all[:half]), rootOf(all[half:]))
}

// proofOf is the proof of a leaf among all leaves of a tree, from the root down.
func proofOf(all []api.Hash, i int) []api.Hash {
	if len(all) == 1 {
		return nil
	}
	half := len(all) / 2
	if i < half {
		return append(proofOf(all[:half], i), rootOf(all[half:]))
	}
	return append(proofOf(all[half:], i-half), rootOf(all[:half]))
}

// foldOf is the root of a leaf with a proof, from the root down.
func foldOf(i int, leaf api.Hash, proof []api.Hash) api.Hash {
	depth := len(proof)
	if depth == 0 {
		return leaf
	}
	half := 1 << (depth - 1)
	last := proof[depth-1]
	if i < half {
		return pair(foldOf(i, leaf, proof[:depth-1]), last)
	}
	return pair(last, foldOf(i-half, leaf, proof[:depth-1]))
}

// wrongDepths are depths that no tree has.
func wrongDepths() []int {
	return []int{-1, -2, -16, -17, -64, math.MinInt32, math.MinInt, 17, 18, 31, 32, 33, 62, 63, 64, 65, 1 << 31, 1 << 32, 1<<32 + 1, math.MaxInt}
}

// wrongPlaces are numbers that no leaf of a tree of a depth has.
func wrongPlaces(depth int) []int {
	n := 1 << depth
	return []int{-1, -2, -n, -n - 1, math.MinInt32, math.MinInt, n, n + 1, 2 * n, 2*n - 1, 1 << 17, 1 << 32, 1 << 62, math.MaxInt}
}

// counts are telling numbers of leaves of a tree, the fewest first.
func counts(depth int) []int {
	n := 1 << depth
	if depth <= 5 {
		all := make([]int, n+1)
		for i := range all {
			all[i] = i
		}
		return all
	}
	return []int{0, 1, 2, 3, n/4 + 1, n/2 - 1, n / 2, n/2 + 1, n - n/4, n - 2, n - 1, n}
}

// P4.1: the document's examples.
func TestRootsOfExamples(t *testing.T) {
	a, b := h(1), h(2)
	for i, c := range []struct {
		depth  int
		leaves []api.Hash
		want   api.Hash
		e      api.Errno
	}{
		{0, nil, z, api.OK},
		{1, nil, pair(z, z), api.OK},
		{17, nil, z, api.ErrArg},
		{1, []api.Hash{a}, pair(a, z), api.OK},
		{0, []api.Hash{a}, a, api.OK},
		{0, []api.Hash{a, b}, z, api.ErrLimit},
		{1, []api.Hash{a, b}, pair(a, b), api.OK},
		{1, []api.Hash{b, a}, pair(b, a), api.OK},
		{1, []api.Hash{z, a}, pair(z, a), api.OK},
		{2, []api.Hash{a, b, a}, pair(pair(a, b), pair(a, z)), api.OK},
		{2, []api.Hash{a}, pair(pair(a, z), pair(z, z)), api.OK},
		{3, []api.Hash{a, b, b, a, a}, pair(pair(pair(a, b), pair(b, a)), pair(pair(a, z), pair(z, z))), api.OK},
	} {
		if r, e := Root(c.depth, c.leaves...); r != c.want || e != c.e {
			t.Errorf("%d: Root = %x, %d", i, r, e)
		}
		if len(c.leaves) > 0 {
			continue
		}
		if r, e := Empty(c.depth); r != c.want || e != c.e {
			t.Errorf("%d: Empty = %x, %d", i, r, e)
		}
	}
}

// P4.1: Empty of all depths is the Root without leaves, and that of zero leaves.
func TestEmpty(t *testing.T) {
	want := z
	for depth := range api.MaxDepth + 1 {
		if depth > 0 {
			want = pair(want, want)
		}
		if r, e := Empty(depth); r != want || e != api.OK {
			t.Errorf("Empty(%d) = %x, %d", depth, r, e)
		}
		for _, leaves := range [][]api.Hash{nil, {}, make([]api.Hash, 1), make([]api.Hash, 1<<depth)} {
			if r, e := Root(depth, leaves...); r != want || e != api.OK {
				t.Errorf("Root(%d) of %d zero leaves = %x, %d", depth, len(leaves), r, e)
			}
		}
	}
}

// P4.1: Root of all depths, also where the leaves given are no power of two.
func TestRoot(t *testing.T) {
	for depth := range api.MaxDepth + 1 {
		for _, n := range counts(depth) {
			leaves := some(n)
			want := rootOf(full(depth, leaves))
			if r, e := Root(depth, leaves...); r != want || e != api.OK {
				t.Errorf("Root(%d) of %d leaves = %x, %d", depth, n, r, e)
			}
		}
	}
}

// P4.1: leaves of value zero count as those that are not given, wherever they stand.
func TestRootOfZeroLeaves(t *testing.T) {
	for set := range 1 << 8 {
		leaves := make([]api.Hash, 8)
		given := 0
		for i := range leaves {
			if set>>i&1 == 1 {
				leaves[i], given = h(i), i+1
			}
		}
		want := rootOf(leaves)
		for n := given; n <= 8; n++ {
			if r, e := Root(3, leaves[:n]...); r != want || e != api.OK {
				t.Errorf("Root of the leaves %b, %d given = %x, %d", set, n, r, e)
			}
		}
	}
}

// P4.1: depths that may not be, ahead of too many leaves; then too many leaves.
func TestRootRefused(t *testing.T) {
	for _, depth := range wrongDepths() {
		if r, e := Empty(depth); r != z || e != api.ErrArg {
			t.Errorf("Empty(%d) = %x, %d", depth, r, e)
		}
		for _, n := range []int{0, 1, 2, 1 << 16, 1<<16 + 1, 1<<17 + 1} {
			if r, e := Root(depth, make([]api.Hash, n)...); r != z || e != api.ErrArg {
				t.Errorf("Root(%d) of %d leaves = %x, %d", depth, n, r, e)
			}
		}
	}
	for depth := range api.MaxDepth + 1 {
		for _, more := range []int{1, 2, 1 << depth, 1<<depth + 1} {
			for _, leaves := range [][]api.Hash{make([]api.Hash, 1<<depth+more), some(1<<depth + more)} {
				if r, e := Root(depth, leaves...); r != z || e != api.ErrLimit {
					t.Errorf("Root(%d) of %d leaves too many = %x, %d", depth, more, r, e)
				}
			}
		}
	}
}

// P4.1: the document's examples of proofs, and some beside them.
func TestProofsOfExamples(t *testing.T) {
	a, b, c := h(1), h(2), h(3)
	for i, x := range []struct {
		depth  int
		leaves []api.Hash
		i      int
		want   []api.Hash
	}{
		{1, []api.Hash{a, b}, 1, []api.Hash{a}},
		{1, []api.Hash{a, b}, 0, []api.Hash{b}},
		{1, []api.Hash{a}, 0, []api.Hash{z}},
		{1, []api.Hash{a}, 1, []api.Hash{a}},
		{1, nil, 1, []api.Hash{z}},
		{0, nil, 0, nil},
		{0, []api.Hash{a}, 0, nil},
		{2, []api.Hash{a, b, c}, 0, []api.Hash{b, pair(c, z)}},
		{2, []api.Hash{a, b, c}, 2, []api.Hash{z, pair(a, b)}},
		{2, []api.Hash{a, b, c}, 3, []api.Hash{c, pair(a, b)}},
		{3, []api.Hash{a, b, c}, 7, []api.Hash{z, pair(z, z), pair(pair(a, b), pair(c, z))}},
	} {
		if p, e := Proof(x.depth, x.leaves, x.i); !slices.Equal(p, x.want) || e != api.OK {
			t.Errorf("%d: Proof = %x, %d", i, p, e)
		}
	}
}

// P4.1: the proof of each leaf of small trees, given or not, and of telling ones of great trees.
func TestProof(t *testing.T) {
	for depth := range api.MaxDepth + 1 {
		for _, n := range counts(depth) {
			leaves := some(n)
			all := full(depth, leaves)
			for _, i := range places(depth, n) {
				if p, e := Proof(depth, leaves, i); !slices.Equal(p, proofOf(all, i)) || e != api.OK {
					t.Errorf("Proof(%d) of %d leaves, the leaf %d, has %d sums, %d", depth, n, i, len(p), e)
				}
			}
		}
	}
}

// places are telling leaves of a tree of which some are given.
func places(depth, given int) []int {
	if depth <= 5 {
		all := make([]int, 1<<depth)
		for i := range all {
			all[i] = i
		}
		return all
	}
	if depth > 12 {
		return []int{given % (1 << depth)}
	}
	return []int{0, max(0, given-1), given % (1 << depth), 1<<depth - 1, 1 << (depth - 1), 0x5555 % (1 << depth)}
}

// P4.1: depths and places that may not be, ahead of too many leaves; then too many leaves.
func TestProofRefused(t *testing.T) {
	refused := func(depth, n, i int, want api.Errno) {
		t.Helper()
		if p, e := Proof(depth, some(n), i); len(p) != 0 || e != want {
			t.Errorf("Proof(%d) of %d leaves, the leaf %d, has %d sums, %d", depth, n, i, len(p), e)
		}
	}
	for _, depth := range wrongDepths() {
		for _, i := range []int{0, 1, -1, 5, math.MaxInt} {
			refused(depth, 0, i, api.ErrArg)
			refused(depth, 3, i, api.ErrArg)
		}
	}
	for depth := range api.MaxDepth + 1 {
		for _, i := range wrongPlaces(depth) {
			refused(depth, 0, i, api.ErrArg)
			refused(depth, 1<<min(depth, 6), i, api.ErrArg)
			if depth < 12 {
				refused(depth, 1<<depth+1, i, api.ErrArg)
			}
		}
		for _, i := range []int{0, 1<<depth - 1} {
			refused(depth, 1<<depth+1, i, api.ErrLimit)
			refused(depth, 1<<depth+2, i, api.ErrLimit)
			refused(depth, 2<<depth, i, api.ErrLimit)
		}
	}
}
