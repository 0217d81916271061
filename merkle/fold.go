package merkle

import (
	"proctor/api"
	"proctor/sha"
)

// Fold is the root of each tree in which leaf is the leaf i with that proof, or ErrArg.
func Fold(i int, leaf api.Hash, proof ...api.Hash) (api.Hash, api.Errno) {
	depth := len(proof)
	if !mayDepth(depth) || !mayPlace(depth, i) {
		return api.Hash{}, api.ErrArg
	}
	root := leaf
	for level, beside := range proof {
		if isSecond(i, level) {
			root = sha.Pair(beside, root)
		} else {
			root = sha.Pair(root, beside)
		}
	}
	return root, api.OK
}

// Check says whether leaf is the leaf i, with that proof, of a tree with that root.
func Check(root api.Hash, i int, leaf api.Hash, proof ...api.Hash) bool {
	folded, e := Fold(i, leaf, proof...)
	return e == api.OK && folded == root
}

// Swap is the root once new stands in the place of old, if old checks.
func Swap(root api.Hash, i int, old, new api.Hash, proof ...api.Hash) (api.Hash, bool) {
	if !Check(root, i, old, proof...) {
		return api.Hash{}, false
	}
	swapped, e := Fold(i, new, proof...)
	return swapped, e == api.OK
}
