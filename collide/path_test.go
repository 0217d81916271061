package collide

import (
	"bytes"
	"crypto/sha256"
	"math"
	"math/rand"
	"slices"
	"testing"

	"proctor/api"
	"proctor/merkle"
)

// strong is SHA-256 of the library.
func strong(b []byte) api.Hash { return sha256.Sum256(b) }

// joined is the bytes of a pair.
func joined(x, y api.Hash) []byte { return slices.Concat([]byte{1}, x[:], y[:]) }

// pathOf is the path of a leaf and a proof, from the root down, with whatever sums.
func pathOf(sum func([]byte) api.Hash, i int, leaf api.Hash, proof []api.Hash) []api.Hashed {
	depth := len(proof)
	if depth == 0 {
		return nil
	}
	half, last := 1<<(depth-1), proof[depth-1]
	below := pathOf(sum, i%half, leaf, proof[:depth-1])
	root := leaf
	if len(below) > 0 {
		root = below[len(below)-1].Sum
	}
	b := joined(root, last)
	if i >= half {
		b = joined(last, root)
	}
	return append(below, api.Hashed{Bytes: b, Sum: sum(b)})
}

// places are telling ones of a tree's places, all of a small tree's.
func places(depth int) []int {
	n := 1 << depth
	if depth <= 6 {
		all := make([]int, n)
		for i := range all {
			all[i] = i
		}
		return all
	}
	return []int{0, 1, 2, 3, n/2 - 1, n / 2, n/2 + 1, n - 2, n - 1, 0x5555 % n, 0xaaaa % n, 0x1234 % n}
}

// wrongPlaces are numbers that no leaf of a tree of a depth has.
func wrongPlaces(depth int) []int {
	n := 1 << depth
	return []int{-1, -2, -n, -n - 1, math.MinInt32, math.MinInt, n, n + 1, 2 * n, 2*n - 1, 1 << 17, 1 << 32, 1 << 62, math.MaxInt}
}

// P5.2: the document's example, both sides of it, and two levels.
func TestPathOfExamples(t *testing.T) {
	a, b, c := h(1), h(2), h(3)
	for n, x := range []struct {
		i     int
		proof []api.Hash
		want  [][]byte
		e     api.Errno
	}{
		{0, nil, nil, api.OK},
		{0, []api.Hash{b}, [][]byte{joined(a, b)}, api.OK},
		{1, []api.Hash{b}, [][]byte{joined(b, a)}, api.OK},
		{0, []api.Hash{b, c}, [][]byte{joined(a, b), joined(strong(joined(a, b)), c)}, api.OK},
		{1, []api.Hash{b, c}, [][]byte{joined(b, a), joined(strong(joined(b, a)), c)}, api.OK},
		{2, []api.Hash{b, c}, [][]byte{joined(a, b), joined(c, strong(joined(a, b)))}, api.OK},
		{3, []api.Hash{b, c}, [][]byte{joined(b, a), joined(c, strong(joined(b, a)))}, api.OK},
		{1, nil, nil, api.ErrArg},
		{-1, nil, nil, api.ErrArg},
		{2, []api.Hash{b}, nil, api.ErrArg},
		{4, []api.Hash{b, c}, nil, api.ErrArg},
	} {
		path, e := Path(x.i, a, x.proof...)
		if e != x.e || len(path) != len(x.want) {
			t.Fatalf("%d: Path = %x, %d", n, path, e)
		}
		for level, want := range x.want {
			if !bytes.Equal(path[level].Bytes, want) || path[level].Sum != strong(want) {
				t.Errorf("%d: the level %d is %x", n, level, path[level])
			}
		}
	}
}

// P5.2: paths of all lengths; the last sum is the root that Fold tells.
func TestPath(t *testing.T) {
	for depth := range api.MaxDepth + 1 {
		proof := some(depth)
		for _, i := range places(depth) {
			path, e := Path(i, h(99), proof...)
			if e != api.OK || !slices.EqualFunc(path, pathOf(strong, i, h(99), proof), sameEntry) {
				t.Errorf("Path(%d) of %d sums = %x, %d", i, depth, path, e)
			}
			if root, _ := merkle.Fold(i, h(99), proof...); depth > 0 && path[depth-1].Sum != root {
				t.Errorf("Path(%d) of %d sums ends at %x", i, depth, path[depth-1].Sum)
			}
		}
	}
}

// P5.2: places out of range, and proofs that are too long.
func TestPathOfWrongArguments(t *testing.T) {
	for depth := range api.MaxDepth + 1 {
		for _, i := range wrongPlaces(depth) {
			if path, e := Path(i, h(9), some(depth)...); len(path) != 0 || e != api.ErrArg {
				t.Errorf("Path(%d) of %d sums = %x, %d", i, depth, path, e)
			}
		}
	}
	for _, depth := range []int{17, 18, 31, 32, 33, 62, 63, 64, 65, 100, 1000} {
		for _, i := range []int{-1, 0, 1, 1 << 16, 1<<17 - 1, math.MaxInt, math.MinInt} {
			if path, e := Path(i, h(9), some(depth)...); len(path) != 0 || e != api.ErrArg {
				t.Errorf("Path(%d) of %d sums = %d levels, %d", i, depth, len(path), e)
			}
		}
	}
}

func wantUnbound(t *testing.T, what string, i int, a api.Hash, pa []api.Hash, b api.Hash, pb []api.Hash) {
	t.Helper()
	if x, y, ok := Bind(i, a, pa, b, pb); len(x) != 0 || len(y) != 0 || ok {
		t.Errorf("%s: Bind(%d) = %x, %x, %v", what, i, x, y, ok)
	}
	if x, y, ok := Bind(i, b, pb, a, pa); len(x) != 0 || len(y) != 0 || ok {
		t.Errorf("%s, turned: Bind(%d) = %x, %x, %v", what, i, x, y, ok)
	}
}

// P5.2: the document's examples, and proofs that come to one root by unlike lengths.
func TestBindOfExamples(t *testing.T) {
	a, b, c := h(1), h(2), h(3)
	ab := strong(joined(a, b))
	abc := strong(joined(ab, c))
	wantUnbound(t, "the first example", 0, a, []api.Hash{b}, a, []api.Hash{b})
	wantUnbound(t, "the second example", 0, a, []api.Hash{b}, b, []api.Hash{b})
	wantUnbound(t, "no levels, one leaf", 0, a, nil, a, []api.Hash{})
	wantUnbound(t, "no levels, two leaves", 0, a, nil, b, nil)
	wantUnbound(t, "a root for a leaf", 0, a, []api.Hash{b}, ab, nil)
	wantUnbound(t, "a root for a leaf, two levels up", 0, a, []api.Hash{b, c}, abc, nil)
	wantUnbound(t, "a node for a leaf", 0, a, []api.Hash{b, c}, ab, []api.Hash{c})
	wantUnbound(t, "both halves turned", 0, a, []api.Hash{b}, b, []api.Hash{a})
	wantUnbound(t, "a place too far on", 2, a, []api.Hash{b}, b, []api.Hash{a})
	wantUnbound(t, "no levels, a place too far on", 1, a, nil, a, nil)
}

// P5.2: the same on both sides, unlike leaves, and proofs that differ at one level alone, at all levels.
func TestBindOfUnlikeRoots(t *testing.T) {
	for depth := range api.MaxDepth + 1 {
		proof := some(depth)
		for _, i := range []int{0, 1<<depth - 1, 0x5555 % (1 << depth), 0xaaaa % (1 << depth)} {
			wantUnbound(t, "the same", i, h(99), proof, h(99), slices.Clone(proof))
			wantUnbound(t, "unlike leaves", i, h(99), proof, h(98), proof)
			wantUnbound(t, "leaves that differ in one bit", i, h(99), proof, spoilt(h(99), 255), proof)
			for level := range depth {
				other := slices.Clone(proof)
				other[level] = spoilt(other[level], 8*level)
				wantUnbound(t, "one level", i, h(99), proof, h(99), other)
				wantUnbound(t, "one level and the leaf", i, h(99), proof, h(98), other)
			}
		}
	}
}

// P5.2: proofs of unlike lengths, places out of range, proofs that are too long.
func TestBindOfWrongArguments(t *testing.T) {
	for depth := range 20 {
		for other := range 20 {
			if depth != other {
				wantUnbound(t, "unlike lengths", 0, h(99), some(depth), h(99), some(other))
				wantUnbound(t, "unlike lengths and leaves", 1, h(99), some(depth), h(98), some(other))
			}
		}
		for _, i := range wrongPlaces(depth) {
			wantUnbound(t, "a wrong place", i, h(99), some(depth), h(99), some(depth))
			wantUnbound(t, "a wrong place, unlike leaves", i, h(99), some(depth), h(98), some(depth))
		}
	}
	for _, depth := range []int{17, 18, 63, 64, 65, 200} {
		wantUnbound(t, "too long", 0, h(99), some(depth), h(99), some(depth))
		wantUnbound(t, "too long, unlike leaves", 0, h(99), some(depth), h(98), some(depth))
		wantUnbound(t, "one too long", 0, h(99), some(depth), h(99), some(16))
	}
}

// P5.2: both paths side by side are what Path tells of each, from the leaf up, however often one asks, and as far as one asks.
func TestSideBySide(t *testing.T) {
	for depth := range api.MaxDepth + 1 {
		pa, pb := some(depth), some(2 * depth)[depth:]
		for _, i := range []int{0, 1<<depth - 1, 0x5555 % (1 << depth), 0xaaaa % (1 << depth)} {
			wantA, _ := Path(i, h(99), pa...)
			wantB, _ := Path(i, h(98), pb...)
			levels := sideBySide(climber{strong, i, h(99)}, pa, climber{strong, i, h(98)}, pb)
			for range 2 {
				var gotA, gotB []api.Hashed
				for x, y := range levels {
					gotA, gotB = append(gotA, x), append(gotB, y)
				}
				if !slices.EqualFunc(gotA, wantA, sameEntry) || !slices.EqualFunc(gotB, wantB, sameEntry) {
					t.Errorf("two paths of %d levels at the place %d", depth, i)
				}
			}
			for end := range depth {
				asked := 0
				for range levels {
					if asked == end {
						break
					}
					asked++
				}
			}
		}
	}
}

// weak are sums of which all collisions are known: a sum of the bytes that wraps soon, one that sees one half alone, and one that sees nothing.
func weak() []func([]byte) api.Hash {
	return []func([]byte) api.Hash{
		func(b []byte) api.Hash {
			var n byte
			for i, c := range b {
				n += byte(i) * c
			}
			return api.Hash{n % 3}
		},
		func(b []byte) api.Hash { return api.Hash(b[1:33]) },
		func(b []byte) api.Hash { return api.Hash(b[33:65]) },
		func(b []byte) api.Hash { return api.Hash{b[1] & b[33]} },
		func([]byte) api.Hash { return api.Hash{7} },
	}
}

// lowestOf is the bytes at the lowest level at which two paths collide.
func lowestOf(one, other []api.Hashed) (x, y []byte, ok bool) {
	for level := range one {
		if !bytes.Equal(one[level].Bytes, other[level].Bytes) && one[level].Sum == other[level].Sum {
			return one[level].Bytes, other[level].Bytes, true
		}
	}
	return nil, nil, false
}

// rootOf is where a path ends.
func rootOf(leaf api.Hash, path []api.Hashed) api.Hash {
	if len(path) == 0 {
		return leaf
	}
	return path[len(path)-1].Sum
}

// wantBinds holds what is bound under a weak sum against the whole paths. P5.4: if both come to one root and are not the same, two unlike byte strings with one sum are told.
func wantBinds(t *testing.T, sum func([]byte) api.Hash, i int, a api.Hash, pa []api.Hash, b api.Hash, pb []api.Hash) {
	t.Helper()
	x, y, ok := lowest(sideBySide(climber{sum, i, a}, pa, climber{sum, i, b}, pb))
	one, other := pathOf(sum, i, a, pa), pathOf(sum, i, b, pb)
	wantX, wantY, wantOK := lowestOf(one, other)
	if !bytes.Equal(x, wantX) || !bytes.Equal(y, wantY) || ok != wantOK {
		t.Errorf("the lowest level at the place %d = %x, %x, %v", i, x, y, ok)
	}
	same := a == b && slices.Equal(pa, pb)
	if same && ok {
		t.Errorf("the same binds at the place %d", i)
	}
	if rootOf(a, one) == rootOf(b, other) && !same && (!ok || bytes.Equal(x, y) || sum(x) != sum(y)) {
		t.Errorf("one root does not bind at the place %d", i)
	}
}

// P5.2, P5.4: all leaves and proofs of two sums up to the depth 3, under sums that collide.
func TestBindUnderWeakSums(t *testing.T) {
	for _, sum := range weak() {
		for depth := range 4 {
			for bits := range 1 << (2*depth + 2) {
				l := make([]api.Hash, 2*depth+2)
				for k := range l {
					l[k] = api.Hash{byte(bits >> k & 1)}
				}
				for i := range 1 << depth {
					wantBinds(t, sum, i, l[0], l[1:depth+1], l[depth+1], l[depth+2:])
				}
			}
		}
	}
}

// P5.2, P5.4: longer proofs under sums that collide, that differ here and there.
func TestBindOfLongProofsUnderWeakSums(t *testing.T) {
	r := rand.New(rand.NewSource(52))
	for range 3000 {
		depth := 1 + r.Intn(api.MaxDepth)
		pa := make([]api.Hash, depth)
		for k := range pa {
			pa[k] = api.Hash{byte(r.Intn(4))}
		}
		a := api.Hash{byte(r.Intn(4))}
		b, pb := a, slices.Clone(pa)
		for range r.Intn(4) {
			pb[r.Intn(depth)] = api.Hash{byte(r.Intn(4))}
		}
		if r.Intn(2) == 0 {
			b = api.Hash{byte(r.Intn(4))}
		}
		for _, sum := range weak() {
			wantBinds(t, sum, r.Intn(1<<depth), a, pa, b, pb)
		}
	}
}

// P5.2: levels with unlike sums, or with one bytes, are passed over.
func TestLowest(t *testing.T) {
	s, u := h(1), h(2)
	for n, c := range []struct {
		one, other []api.Hashed
		x, y       []byte
		ok         bool
	}{
		{nil, nil, nil, nil, false},
		{[]api.Hashed{en(s, 1)}, []api.Hashed{en(s, 1)}, nil, nil, false},
		{[]api.Hashed{en(s, 1)}, []api.Hashed{en(u, 2)}, nil, nil, false},
		{[]api.Hashed{en(s, 1)}, []api.Hashed{en(u, 1)}, nil, nil, false},
		{[]api.Hashed{en(s, 1)}, []api.Hashed{en(s, 2)}, []byte{1}, []byte{2}, true},
		{[]api.Hashed{en(s, 1), en(s, 3)}, []api.Hashed{en(s, 2), en(s, 4)}, []byte{1}, []byte{2}, true},
		{[]api.Hashed{en(s, 1), en(s, 3)}, []api.Hashed{en(u, 2), en(s, 4)}, []byte{3}, []byte{4}, true},
		{[]api.Hashed{en(s, 1), en(s, 3)}, []api.Hashed{en(s, 1), en(s, 4)}, []byte{3}, []byte{4}, true},
		{[]api.Hashed{en(s, 1), en(u, 3)}, []api.Hashed{en(s, 1), en(s, 4)}, nil, nil, false},
	} {
		levels := func(yield func(x, y api.Hashed) bool) {
			for i := range c.one {
				if !yield(c.one[i], c.other[i]) {
					return
				}
			}
		}
		if x, y, ok := lowest(levels); !bytes.Equal(x, c.x) || !bytes.Equal(y, c.y) || ok != c.ok {
			t.Errorf("%d: lowest = %x, %x, %v", n, x, y, ok)
		}
	}
}

// P5.4: leaves that check against one root at one place are one leaf, as far as anybody knows.
func TestRootBinds(t *testing.T) {
	leaves := some(13)
	root, _ := merkle.Root(4, leaves...)
	for i := range leaves {
		proof, _ := merkle.Proof(4, leaves, i)
		for _, leaf := range append(some(13), h(0), api.Hash{}, root) {
			_, _, ok := Bind(i, leaves[i], proof, leaf, proof)
			if checks := merkle.Check(root, i, leaf, proof...); ok != (checks && leaf != leaves[i]) {
				t.Errorf("two leaves at the place %d", i)
			}
		}
	}
}

func FuzzBind(f *testing.F) {
	f.Add(0, []byte{})
	f.Add(1, []byte{1, 2, 1, 3})
	f.Add(2, []byte{1, 2, 3, 3, 2, 1})
	f.Fuzz(func(t *testing.T, i int, b []byte) {
		depth := min(len(b)/2, 20) - 1
		if depth < 0 {
			return
		}
		l := make([]api.Hash, 2*depth+2)
		for k := range l {
			l[k] = api.Hash{b[k] & 3}
		}
		a, pa, c, pc := l[0], l[1:depth+1], l[depth+1], l[depth+2:]
		x, y, ok := Bind(i, a, pa, c, pc)
		if ok && (bytes.Equal(x, y) || strong(x) != strong(y)) || !ok && len(x)+len(y) > 0 {
			t.Errorf("Bind = %x, %x, %v", x, y, ok)
		}
		path, e := Path(i, a, pa...)
		root, wantE := merkle.Fold(i, a, pa...)
		if e != wantE || e == api.OK && rootOf(a, path) != root {
			t.Errorf("Path = %x, %d", path, e)
		}
		if e == api.OK {
			for _, sum := range weak() {
				wantBinds(t, sum, i, a, pa, c, pc)
			}
		}
	})
}
