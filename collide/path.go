package collide

import (
	"iter"

	"proctor/api"
	"proctor/merkle"
	"proctor/sha"
)

// What sha.Pair sums: a mark, and both halves.
const (
	pairMark  = 1
	pairBytes = 1 + 2*len(api.Hash{})
)

// climber goes up from a leaf, level by level. It is told how bytes are summed, as nobody knows what collides in SHA-256, and tests have to see it find what does.
type climber struct {
	sum   func([]byte) api.Hash
	place int // which one the tree below is of those side by side at its level
	node  api.Hash
}

// Path is the path of the leaf i with a proof, or ErrArg.
func Path(i int, leaf api.Hash, proof ...api.Hash) ([]api.Hashed, api.Errno) {
	if _, e := merkle.Fold(i, leaf, proof...); e != api.OK {
		return nil, e
	}
	path := make([]api.Hashed, 0, len(proof))
	c := climber{sha.Sum, i, leaf}
	for _, beside := range proof {
		path = append(path, c.up(beside))
	}
	return path, api.OK
}

// Bind is two byte strings with one sum, if a and b have unlike proofs, or are unlike, and yet come to one root at the place i.
func Bind(i int, a api.Hash, pa []api.Hash, b api.Hash, pb []api.Hash) (x, y []byte, ok bool) {
	if len(pa) != len(pb) {
		return nil, nil, false
	}
	rootOfA, errorOfA := merkle.Fold(i, a, pa...)
	rootOfB, errorOfB := merkle.Fold(i, b, pb...)
	if errorOfA != api.OK || errorOfB != api.OK || rootOfA != rootOfB {
		return nil, nil, false
	}
	// Where a and pa are b and pb, nothing differs on the way up, so that needs no question of its own.
	return lowest(sideBySide(climber{sha.Sum, i, a}, pa, climber{sha.Sum, i, b}, pb))
}

// lowest is the bytes of the first level that collides, if one does.
func lowest(levels iter.Seq2[api.Hashed, api.Hashed]) (x, y []byte, ok bool) {
	for one, other := range levels {
		if collides(one, other) {
			return one.Bytes, other.Bytes, true
		}
	}
	return nil, nil, false
}

// sideBySide tells the levels of two paths, from the leaves up, by proofs of one length.
func sideBySide(one climber, itsProof []api.Hash, other climber, otherProof []api.Hash) iter.Seq2[api.Hashed, api.Hashed] {
	return func(yield func(api.Hashed, api.Hashed) bool) {
		left, right := one, other
		for level, beside := range itsProof {
			if !yield(left.up(beside), right.up(otherProof[level])) {
				return
			}
		}
	}
}

// up goes one level up, and is that level of the path.
func (c *climber) up(beside api.Hash) api.Hashed {
	first, second := c.node, beside
	if c.place&1 == 1 {
		first, second = second, first
	}
	b := pairOf(first, second)
	c.node = c.sum(b)
	c.place >>= 1
	return api.Hashed{Bytes: b, Sum: c.node}
}

// pairOf is the bytes that sha.Pair sums.
func pairOf(first, second api.Hash) []byte {
	b := make([]byte, 0, pairBytes)
	b = append(b, pairMark)
	b = append(b, first[:]...)
	return append(b, second[:]...)
}
