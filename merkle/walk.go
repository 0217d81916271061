package merkle

import (
	"iter"

	"proctor/api"
	"proctor/sha"
)

// levels holds at each level the root of a first half that waits for its second one, so that a tree is built in the room of its height, however many leaves it has.
type levels [api.MaxDepth + 1]api.Hash

// build is the root of the tree of a depth whose first leaves are the sums of some things, at most as many as it has leaves.
func build[T any](depth int, things []T, sum func(T) api.Hash) api.Hash {
	var waiting levels
	for i, x := range things {
		waiting.put(i, sum(x))
	}
	if len(things) == width(depth) {
		return waiting[depth]
	}
	return waiting.fill(depth, len(things))
}

// put brings the leaf i, behind all ahead of it, up to the level at which it ends a first half: there it waits. Wherever it ends a second half, the first one is waiting.
func (w *levels) put(i int, leaf api.Hash) {
	root, level := leaf, 0
	for isSecond(i, level) {
		root = sha.Pair(w[level], root)
		level++
	}
	w[level] = root
}

// fill is the root of a tree of which the first count leaves were put, and not all: it goes up from the first leaf that was not.
func (w *levels) fill(depth, count int) api.Hash {
	var root api.Hash
	for level, empty := range empties(depth) {
		if isSecond(count, level) {
			root = sha.Pair(w[level], root)
		} else {
			root = sha.Pair(root, empty)
		}
	}
	return root
}

// isSecond says whether at a level the tree in which the leaf i stands is a second half.
func isSecond(i, level int) bool { return i>>level&1 == 1 }

// empties tells the roots of the empty trees of the depths from 0 on, count of them.
func empties(count int) iter.Seq2[int, api.Hash] {
	return func(yield func(int, api.Hash) bool) {
		var root api.Hash
		for depth := range count {
			if depth > 0 {
				root = sha.Pair(root, root)
			}
			if !yield(depth, root) {
				return
			}
		}
	}
}
