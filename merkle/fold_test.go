package merkle

import (
	"bytes"
	"math/rand"
	"slices"
	"testing"

	"proctor/api"
)

// spoilt is a sum with one bit turned.
func spoilt(x api.Hash, bit int) api.Hash {
	x[bit/8] ^= 1 << (bit % 8)
	return x
}

// P4.2: the document's examples.
func TestFoldsOfExamples(t *testing.T) {
	a, b := h(1), h(2)
	for i, c := range []struct {
		i     int
		leaf  api.Hash
		proof []api.Hash
		want  api.Hash
		e     api.Errno
	}{
		{1, b, []api.Hash{a}, pair(a, b), api.OK},
		{0, b, []api.Hash{a}, pair(b, a), api.OK},
		{2, b, []api.Hash{a}, z, api.ErrArg},
		{0, a, nil, a, api.OK},
		{0, z, nil, z, api.OK},
		{1, a, nil, z, api.ErrArg},
		{-1, a, nil, z, api.ErrArg},
		{-1, a, []api.Hash{b}, z, api.ErrArg},
		{1, a, []api.Hash{b, z}, pair(pair(b, a), z), api.OK},
		{2, a, []api.Hash{b, z}, pair(z, pair(a, b)), api.OK},
	} {
		if r, e := Fold(c.i, c.leaf, c.proof...); r != c.want || e != c.e {
			t.Errorf("%d: Fold = %x, %d", i, r, e)
		}
	}
	if !Check(pair(a, b), 0, a, b) {
		t.Error("Check of the example is false")
	}
}

// P4.2: Fold of whatever sums, all places of short proofs and telling ones of long proofs.
func TestFold(t *testing.T) {
	for depth := range api.MaxDepth + 1 {
		proof := some(depth)
		for _, i := range append(places(min(depth, 12), 0), 1<<depth-1, 0x5555%(1<<depth), 0x2aaa%(1<<depth)) {
			if r, e := Fold(i, h(99), proof...); r != foldOf(i, h(99), proof) || e != api.OK {
				t.Errorf("Fold(%d) of %d sums = %x, %d", i, depth, r, e)
			}
		}
	}
}

// P4.2: the root that Fold tells is that of a tree in which the leaf stands with that proof.
func TestFoldIsRoot(t *testing.T) {
	for depth := range 7 {
		leaves := some(1<<depth - depth/2)
		root, _ := Root(depth, leaves...)
		for i, leaf := range full(depth, leaves) {
			proof, _ := Proof(depth, leaves, i)
			if r, e := Fold(i, leaf, proof...); r != root || e != api.OK {
				t.Errorf("Fold(%d) at the depth %d = %x, %d", i, depth, r, e)
			}
		}
	}
}

// wantRefused asks all three calls of a place and a proof that no tree has; a zero root doesn't make an error right.
func wantRefused(t *testing.T, i int, leaf api.Hash, proof []api.Hash) {
	t.Helper()
	r, e := Fold(i, leaf, proof...)
	if r != z || e != api.ErrArg {
		t.Errorf("Fold(%d) of %d sums = %x, %d", i, len(proof), r, e)
	}
	for _, root := range []api.Hash{z, leaf, h(5)} {
		if Check(root, i, leaf, proof...) {
			t.Errorf("Check(%d) of %d sums", i, len(proof))
		}
		if r, ok := Swap(root, i, leaf, h(6), proof...); r != z || ok {
			t.Errorf("Swap(%d) of %d sums = %x, %v", i, len(proof), r, ok)
		}
	}
}

// P4.2: places out of range, and proofs that are too long for any tree.
func TestFoldRefused(t *testing.T) {
	for _, leaf := range []api.Hash{z, h(7)} {
		for n := range api.MaxDepth + 1 {
			for _, i := range wrongPlaces(n) {
				wantRefused(t, i, leaf, some(n))
				wantRefused(t, i, leaf, make([]api.Hash, n))
			}
		}
		for _, n := range []int{17, 18, 31, 32, 33, 62, 63, 64, 65, 128, 1000} {
			for _, i := range append(wrongPlaces(16), 0, 1, 1<<16-1, 1<<16) {
				wantRefused(t, i, leaf, some(n))
			}
		}
	}
}

// wrongProofs are proofs that are not p: too short, too long, turned, changed.
func wrongProofs(p []api.Hash) [][]api.Hash {
	turned := slices.Clone(p)
	slices.Reverse(turned)
	all := [][]api.Hash{nil, turned, append(slices.Clone(p), z), append([]api.Hash{z}, p...), append(slices.Clone(p), p...)}
	for n := range p {
		changed := slices.Clone(p)
		changed[n] = spoilt(changed[n], 37*n%256)
		all = append(all, p[:n], p[n:], slices.Concat(p[:n], p[n+1:]), changed)
		if n > 0 {
			swapped := slices.Clone(p)
			swapped[n-1], swapped[n] = swapped[n], swapped[n-1]
			all = append(all, swapped)
		}
	}
	return slices.DeleteFunc(all, func(q []api.Hash) bool { return slices.Equal(p, q) })
}

// P4.2: Check takes the right root, place, leaf and proof alone.
func TestCheck(t *testing.T) {
	for depth := range 6 {
		leaves := some(1 << depth)
		root, _ := Root(depth, leaves...)
		for i, leaf := range leaves {
			proof, _ := Proof(depth, leaves, i)
			if !Check(root, i, leaf, proof...) {
				t.Errorf("the leaf %d at the depth %d doesn't check", i, depth)
			}
			for j, other := range leaves {
				if j != i && (Check(root, j, leaf, proof...) || Check(root, i, other, proof...)) {
					t.Errorf("the leaf %d at the depth %d checks as the leaf %d", i, depth, j)
				}
			}
			for bit := range 256 {
				if Check(spoilt(root, bit), i, leaf, proof...) || Check(root, i, spoilt(leaf, bit), proof...) {
					t.Errorf("the leaf %d at the depth %d checks with the bit %d turned", i, depth, bit)
				}
			}
			for n, wrong := range wrongProofs(proof) {
				if Check(root, i, leaf, wrong...) {
					t.Errorf("the leaf %d at the depth %d checks with the wrong proof %d", i, depth, n)
				}
				if r, ok := Swap(root, i, leaf, h(99), wrong...); r != z || ok {
					t.Errorf("the leaf %d at the depth %d is swapped by the wrong proof %d", i, depth, n)
				}
			}
		}
	}
}

// P4.2: Check of the zero root, which is what Fold tells beside an error, too.
func TestCheckOfZeroRoot(t *testing.T) {
	if !Check(z, 0, z) {
		t.Error("the zero leaf doesn't check against itself")
	}
	if r, ok := Swap(z, 0, z, h(1)); r != h(1) || !ok {
		t.Errorf("Swap of the zero leaf = %x, %v", r, ok)
	}
	if r, ok := Swap(h(1), 0, h(1), z); r != z || !ok {
		t.Errorf("Swap to the zero leaf = %x, %v", r, ok)
	}
	if Check(z, 1, z) || Check(z, 0, z, z) || Check(z, 0, h(1)) {
		t.Error("Check takes what is not under the zero root")
	}
}

// P4.2: Swap is the Fold of the new leaf just if the old one checks.
func TestSwap(t *testing.T) {
	a, b, c := h(1), h(2), h(3)
	for i, x := range []struct {
		root     api.Hash
		i        int
		old, new api.Hash
		proof    []api.Hash
		want     api.Hash
		ok       bool
	}{
		{pair(a, b), 0, a, c, []api.Hash{b}, pair(c, b), true},
		{pair(a, b), 1, b, c, []api.Hash{a}, pair(a, c), true},
		{pair(a, b), 0, a, a, []api.Hash{b}, pair(a, b), true},
		{pair(a, b), 0, a, z, []api.Hash{b}, pair(z, b), true},
		{a, 0, a, c, nil, c, true},
		{pair(a, b), 0, c, a, []api.Hash{b}, z, false},
		{pair(a, b), 0, b, c, []api.Hash{a}, z, false},
		{pair(a, b), 1, a, c, []api.Hash{b}, z, false},
		{pair(c, b), 0, a, c, []api.Hash{b}, z, false},
		{pair(a, b), 2, a, c, []api.Hash{b}, z, false},
		{pair(a, b), 0, a, c, nil, z, false},
		{z, 0, a, c, make([]api.Hash, 17), z, false},
	} {
		if r, ok := Swap(x.root, x.i, x.old, x.new, x.proof...); r != x.want || ok != x.ok {
			t.Errorf("%d: Swap = %x, %v", i, r, ok)
		}
	}
}

// wantThereAndBack swaps a leaf against a new one and back.
func wantThereAndBack(t *testing.T, depth int, leaves []api.Hash, i int, fresh api.Hash) {
	t.Helper()
	all := full(depth, leaves)
	root, _ := Root(depth, leaves...)
	proof, e := Proof(depth, leaves, i)
	if e != api.OK || !Check(root, i, all[i], proof...) {
		t.Errorf("the leaf %d of %d at the depth %d doesn't check", i, len(leaves), depth)
	}
	old := all[i]
	there, ok := Swap(root, i, old, fresh, proof...)
	all[i] = fresh
	if want, _ := Root(depth, all...); there != want || !ok {
		t.Errorf("the leaf %d of %d at the depth %d, swapped: %x, %v", i, len(leaves), depth, there, ok)
	}
	if after, _ := Proof(depth, all, i); !slices.Equal(after, proof) {
		t.Errorf("the leaf %d of %d at the depth %d has another proof behind the swap", i, len(leaves), depth)
	}
	if back, ok := Swap(there, i, fresh, old, proof...); back != root || !ok {
		t.Errorf("the leaf %d of %d at the depth %d, swapped back: %x, %v", i, len(leaves), depth, back, ok)
	}
}

// P4.3: each leaf checks, and is swapped there and back, those that were not given too.
func TestThereAndBack(t *testing.T) {
	for depth := range 6 {
		for _, n := range counts(depth) {
			for _, i := range places(depth, n) {
				wantThereAndBack(t, depth, some(n), i, h(1000))
			}
		}
	}
	for _, depth := range []int{6, 9} {
		for _, n := range counts(depth) {
			for _, i := range []int{0, n % (1 << depth), 1<<depth - 1} {
				wantThereAndBack(t, depth, some(n), i, z)
			}
		}
	}
	for _, n := range []int{0, 40000, 1 << 16} {
		wantThereAndBack(t, 16, some(n), 1<<16-1, h(1000))
		wantThereAndBack(t, 16, some(n), 0x5555, h(1000))
	}
}

// P4.3: many swaps one behind the other keep the root that of the leaves, and undone in turn they lead back.
func TestManySwaps(t *testing.T) {
	const depth = 5
	r := rand.New(rand.NewSource(4))
	leaves := full(depth, some(11))
	first, _ := Root(depth, leaves...)
	root := first
	type step struct {
		i        int
		old, new api.Hash
		proof    []api.Hash
	}
	var steps []step
	for n := range 300 {
		i := r.Intn(1 << depth)
		proof, _ := Proof(depth, leaves, i)
		s := step{i, leaves[i], h(n % 40), proof}
		after, ok := Swap(root, i, s.old, s.new, proof...)
		leaves[i] = s.new
		if want, _ := Root(depth, leaves...); after != want || !ok {
			t.Fatalf("the swap %d: %x, %v", n, after, ok)
		}
		root, steps = after, append(steps, s)
	}
	slices.Reverse(steps)
	for n, s := range steps {
		back, ok := Swap(root, s.i, s.new, s.old, s.proof...)
		if !ok {
			t.Fatalf("the swap %d from the end is not undone", n)
		}
		root = back
	}
	if root != first {
		t.Error("all swaps undone don't lead back")
	}
}

// sums cuts bytes into sums.
func sums(b []byte) []api.Hash {
	var l []api.Hash
	for len(b) > 0 {
		var x api.Hash
		b = b[copy(x[:], b):]
		l = append(l, x)
	}
	return l
}

// P4.2: hostile places and proofs.
func FuzzFold(f *testing.F) {
	f.Add(0, []byte{}, []byte{})
	f.Add(1, []byte{1}, bytes.Repeat([]byte{7}, 64))
	f.Add(-1, []byte{1}, bytes.Repeat([]byte{7}, 32))
	f.Add(1<<16-1, []byte{2}, make([]byte, 16*32))
	f.Add(0, []byte{2}, make([]byte, 17*32))
	f.Fuzz(func(t *testing.T, i int, l, p []byte) {
		var leaf api.Hash
		copy(leaf[:], l)
		proof := sums(p)
		if len(proof) > 16 || i < 0 || i >= 1<<len(proof) {
			wantRefused(t, i, leaf, proof)
			return
		}
		want := foldOf(i, leaf, proof)
		if r, e := Fold(i, leaf, proof...); r != want || e != api.OK {
			t.Errorf("Fold = %x, %d", r, e)
		}
		if !Check(want, i, leaf, proof...) || Check(spoilt(want, len(p)%256), i, leaf, proof...) {
			t.Error("Check")
		}
	})
}

// P4.1, P4.3: hostile leaves, depths and places.
func FuzzTree(f *testing.F) {
	f.Add(0, 0, []byte{})
	f.Add(3, 5, bytes.Repeat([]byte{1, 2, 3}, 70))
	f.Add(17, 0, []byte{1})
	f.Add(1, 2, []byte{1})
	f.Add(1, 1, make([]byte, 96))
	f.Fuzz(func(t *testing.T, depth, i int, b []byte) {
		leaves := sums(b)
		r, rootE := Root(depth, leaves...)
		p, proofE := Proof(depth, leaves, i)
		var wantRoot, wantProof api.Errno
		if len(leaves) > 1<<max(0, min(depth, 16)) {
			wantRoot, wantProof = api.ErrLimit, api.ErrLimit
		}
		if depth < 0 || depth > 16 {
			wantRoot, wantProof = api.ErrArg, api.ErrArg
		} else if i < 0 || i >= 1<<depth {
			wantProof = api.ErrArg
		}
		if rootE != wantRoot || proofE != wantProof || rootE != api.OK && r != z || proofE != api.OK && len(p) > 0 {
			t.Fatalf("Root has %d, Proof has %d", rootE, proofE)
		}
		if rootE == api.OK && r != rootOf(full(depth, leaves)) {
			t.Errorf("Root = %x", r)
		}
		if proofE == api.OK {
			wantThereAndBack(t, depth, leaves, i, h(3))
		}
	})
}
