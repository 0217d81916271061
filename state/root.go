package state

import (
	"slices"

	"proctor/api"
	"proctor/merkle"
	"proctor/sha"
)

// Both trees and the number of withdrawals are a tree of two levels more: at its bottom the accounts come first and the withdrawals behind them, so that one proof leads from a leaf up to the state's root.
const firstOut = 1 << api.Levels

// Root is the root of a state, or ErrArg.
func Root(s api.State) (api.Hash, api.Errno) {
	if !May(s) {
		return api.Hash{}, api.ErrArg
	}
	return merkle.Fold(0, accountsOf(s).root(), outsOf(s).root(), countSum(count(s)))
}

// Prove is the witness of the account i, or ErrArg.
func Prove(s api.State, i int) (api.Witness, api.Errno) {
	if !May(s) || i < 0 || i >= len(s.Accounts) {
		return api.Witness{}, api.ErrArg
	}
	return witness(s, accountsOf(s), i, outsOf(s))
}

// ProveOut is the witness of the withdrawal i, or ErrArg.
func ProveOut(s api.State, i int) (api.Witness, api.Errno) {
	if !May(s) || i < 0 || i >= len(s.Outs) {
		return api.Witness{}, api.ErrArg
	}
	return witness(s, outsOf(s), i, accountsOf(s))
}

// Check says whether a is the account i of a state with that root.
func Check(root api.Hash, i int, a api.Account, w api.Witness) bool {
	if !mayWitness(w) || i < 0 || i >= api.Accounts {
		return false
	}
	return merkle.Check(root, i, sha.Leaf(AccountBytes(a)), wayUp(w)...)
}

// CheckOut says whether o is the withdrawal i of a state with that root.
func CheckOut(root api.Hash, i int, o api.Out, w api.Witness) bool {
	if !mayWitness(w) || i < 0 || uint64(i) >= w.Count {
		return false
	}
	return merkle.Check(root, firstOut+i, sha.Leaf(OutBytes(o)), wayUp(w)...)
}

func mayWitness(w api.Witness) bool {
	return len(w.Path) == api.Levels && w.Count <= api.MaxOuts
}

// witness is that of the leaf i of a tree of s, beside which the other one stands.
func witness(s api.State, its tree, i int, other tree) (api.Witness, api.Errno) {
	path, e := merkle.Proof(api.Levels, its.leaves(), i)
	if e != api.OK {
		return api.Witness{}, e
	}
	return api.Witness{Path: path, Other: other.root(), Count: count(s)}, api.OK
}

// wayUp is the proof of a leaf all the way up to the state's root.
func wayUp(w api.Witness) []api.Hash {
	return slices.Concat(w.Path, []api.Hash{w.Other, countSum(w.Count)})
}

func count(s api.State) uint64 { return uint64(len(s.Outs)) }

// countSum is the sum that stands for a number of withdrawals.
func countSum(n uint64) api.Hash { return sha.From([4]uint64{3: n}) }
