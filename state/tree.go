package state

import (
	"iter"

	"proctor/api"
	"proctor/collide"
	"proctor/merkle"
	"proctor/sha"
)

// leafMark is what sha.Leaf sums ahead of a leaf's bytes.
const leafMark = 0

// tree is one of a state's two trees: what is summed for each leaf that is given, at most as many as a tree of Levels levels has.
type tree []api.Hashed

func accountsOf(s api.State) tree { return treeOf(s.Accounts[:], AccountBytes) }

func outsOf(s api.State) tree { return treeOf(s.Outs, OutBytes) }

// treeOf is the tree of what has bytes.
func treeOf[T api.Account | api.Out](things []T, bytesOf func(T) []byte) tree {
	t := make(tree, 0, len(things))
	for _, thing := range things {
		b := bytesOf(thing)
		t = append(t, api.Hashed{Bytes: append([]byte{leafMark}, b...), Sum: sha.Leaf(b)})
	}
	return t
}

// leaves is the sums of the leaves that are given.
func (t tree) leaves() []api.Hash {
	leaves := make([]api.Hash, 0, len(t))
	for _, leaf := range t {
		leaves = append(leaves, leaf.Sum)
	}
	return leaves
}

func (t tree) root() api.Hash {
	root, _ := merkle.Root(api.Levels, t.leaves()...)
	return root
}

// pairs tells what is summed for each Pair, level by level from the leaves up, from the left.
func (t tree) pairs() iter.Seq[api.Hashed] {
	return func(yield func(api.Hashed) bool) {
		level := make([]api.Hash, 1<<api.Levels)
		copy(level, t.leaves())
		for len(level) > 1 {
			half := len(level) / 2
			for i := range half {
				pair := pairOf(level[2*i], level[2*i+1])
				if !yield(pair) {
					return
				}
				// The place i was read by now, so that the next level can stand in this one's room.
				level[i] = pair.Sum
			}
			level = level[:half]
		}
	}
}

// pairOf is what is summed for the Pair of two sums: the one level of a path with one sum beside it.
func pairOf(first, second api.Hash) api.Hashed {
	path, _ := collide.Path(0, first, second)
	return path[0]
}
