// Package sha is layer 1: SHA-256, the sum that all commitments are made of. See shared/doc/01-sha.md.
package sha

import "proctor/api"

// What Leaf and Pair put ahead, so that a leaf's bytes are never those of a pair.
const (
	leafMark = 0
	pairMark = 1
)

// Sum is SHA-256 of b.
func Sum(b []byte) api.Hash {
	k := roundNumbers()
	h := firstWords()
	whole := len(b) - len(b)%blockBytes
	h = absorb(h, b[:whole:whole], &k)
	h = absorb(h, lastBlocks(b[whole:], len(b)), &k)
	return fromWords(h)
}

// Leaf is the sum of a leaf's bytes.
func Leaf(b []byte) api.Hash {
	marked := make([]byte, 0, 1+len(b))
	marked = append(marked, leafMark)
	return Sum(append(marked, b...))
}

// Pair is the sum of two sums that stand side by side.
func Pair(x, y api.Hash) api.Hash {
	marked := make([]byte, 0, 1+len(x)+len(y))
	marked = append(marked, pairMark)
	marked = append(marked, x[:]...)
	return Sum(append(marked, y[:]...))
}

// Rounds is how many blocks Sum goes through.
func Rounds(b []byte) int {
	return len(b)/blockBytes + lastRounds(len(b)%blockBytes)
}
