package state

import (
	"iter"
	"slices"

	"proctor/api"
	"proctor/collide"
)

// Known is all bytes that are summed for the root of a state, each with its sum, or ErrArg.
func Known(s api.State) ([]api.Hashed, api.Errno) {
	if !May(s) {
		return nil, api.ErrArg
	}
	var list []api.Hashed
	for entry := range known(s) {
		list = append(list, entry)
	}
	return list, api.OK
}

// known tells what is summed: the leaves of both trees, their pairs, and what stands above both.
func known(s api.State) iter.Seq[api.Hashed] {
	accounts, outs := accountsOf(s), outsOf(s)
	top, _ := collide.Path(0, accounts.root(), outs.root(), countSum(count(s)))
	return inTurn(slices.Values(accounts), slices.Values(outs), accounts.pairs(), outs.pairs(), slices.Values(top))
}

// inTurn tells all that some functions tell, one behind the other.
func inTurn[T any](parts ...iter.Seq[T]) iter.Seq[T] {
	return func(yield func(T) bool) {
		for _, part := range parts {
			for x := range part {
				if !yield(x) {
					return
				}
			}
		}
	}
}
