package mem

import (
	"proctor/api"
	"proctor/sha"
)

// tree is 1, 2, 4, .. things with the sums of all levels above them in one list, the leaves first, the root last: so above the places 2k and 2k + 1 stands the place k behind the leaves, at whatever level.
type tree[T any] struct {
	sum    func(T) api.Hash
	things []T
	levels []api.Hash
}

// grow is the tree of some things, which are the tree's own from then on.
func grow[T any](things []T, sum func(T) api.Hash) tree[T] {
	pairs := len(things) - 1
	t := tree[T]{sum: sum, things: things, levels: make([]api.Hash, 0, len(things)+pairs)}
	for _, x := range things {
		t.levels = append(t.levels, sum(x))
	}
	for k := range pairs {
		t.levels = append(t.levels, t.pair(2*k))
	}
	return t
}

// put brings x to the place i, and sums anew just what stands above it.
func (t *tree[T]) put(i int, x T) {
	t.things[i] = x
	t.levels[i] = t.sum(x)
	for at := i; at < t.top(); at = t.above(at) {
		t.levels[t.above(at)] = t.pair(at)
	}
}

// path is the sums beside the way up from the thing i.
func (t *tree[T]) path(i int) []api.Hash {
	path := make([]api.Hash, 0, depthOf(len(t.things)))
	for at := i; at < t.top(); at = t.above(at) {
		path = append(path, t.levels[at^1])
	}
	return path
}

// pair is the sum of the one at a place and the one beside it.
func (t *tree[T]) pair(at int) api.Hash {
	first := at &^ 1
	return sha.Pair(t.levels[first], t.levels[first+1])
}

// above is the place above another one that is not the root's.
func (t *tree[T]) above(at int) int { return len(t.things) + at/2 }

// top is the root's place.
func (t *tree[T]) top() int { return len(t.levels) - 1 }
