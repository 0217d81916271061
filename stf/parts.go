package stf

import (
	"slices"

	"proctor/api"
)

// part is some statements, one behind the other.
// Each call here makes new expressions and statements: no two lists of a program may share memory, so what stands at two places is made twice, by a closure.
type part = []api.Stmt

func number(n uint64) api.Expr { return api.Expr{Kind: api.EConst, N: n} }

func variable(v int) api.Expr { return api.Expr{Kind: api.EVar, V: v} }

// word is the data word at an address.
func word(at api.Expr) api.Expr { return api.Expr{Kind: api.ELoad, L: []api.Expr{at}} }

func reckon(op api.Op, x, y api.Expr) api.Expr {
	return api.Expr{Kind: api.EBin, Op: op, L: []api.Expr{x, y}}
}

func sum(x, y api.Expr) api.Expr { return reckon(api.ADD, x, y) }

func either(x, y api.Expr) api.Expr { return reckon(api.OR, x, y) }

func less(x, y api.Expr) api.Expr { return reckon(api.LTU, x, y) }

func equal(x, y api.Expr) api.Expr { return reckon(api.EQ, x, y) }

// differ is 0 just if both are equal.
func differ(x, y api.Expr) api.Expr { return reckon(api.XOR, x, y) }

func not(x api.Expr) api.Expr { return equal(x, number(0)) }

func set(v int, x api.Expr) part {
	return part{{Kind: api.SSet, V: v, Args: []api.Expr{x}}}
}

func store(at, x api.Expr) part {
	return part{{Kind: api.SStore, Args: []api.Expr{at, x}}}
}

func when(x api.Expr, then ...part) part {
	return part{{Kind: api.SIf, Args: []api.Expr{x}, Then: together(then...)}}
}

func while(x api.Expr, do ...part) part {
	return part{{Kind: api.SWhile, Args: []api.Expr{x}, Then: together(do...)}}
}

func answer(x api.Expr) part {
	return part{{Kind: api.SReturn, Args: []api.Expr{x}}}
}

// call sets a variable to what a function answers.
func call(v, f int, args ...api.Expr) part {
	return part{{Kind: api.SCall, V: v, F: f, Args: slices.Clone(args)}}
}

// hash puts to an address the sum of a tag and of so many bytes from another address on.
func hash(tag int, to, from api.Expr, size uint64) part {
	return part{{Kind: api.SHash, Tag: tag, Args: []api.Expr{to, from, number(size)}}}
}

// piece sets a variable to the word from a place on of the preimage of the sum at an address.
func piece(v int, of api.Expr, place uint64) part {
	return part{{Kind: api.SPre, V: v, Args: []api.Expr{of, number(place)}}}
}

// length sets a variable to how many bytes that preimage has.
func length(v int, of api.Expr) part {
	return part{{Kind: api.SPlen, V: v, Args: []api.Expr{of}}}
}

// pieces puts so many words from a place on of the preimage of a sum where they are told to stand, by way of a variable.
func pieces(v int, words, place uint64, of func() api.Expr, to func(n uint64) api.Expr) part {
	return each(upTo(words), func(n uint64) part {
		return together(piece(v, of(), place+wordBytes*n), store(to(n), variable(v)))
	})
}

// moved puts so many words from one address on to another.
func moved(words, from, to uint64) part {
	return each(upTo(words), func(n uint64) part {
		return store(number(to+n), word(number(from+n)))
	})
}

// refuse answers 0, if any of these is not 0.
func refuse(faults ...api.Expr) part {
	return when(joined(faults, either), answer(number(0)))
}

// rising does the same for a variable's number and all above it, as long as these are less than an end.
func rising(v int, end api.Expr, do ...part) part {
	next := set(v, sum(variable(v), number(1)))
	return while(less(variable(v), end), together(do...), next)
}

// function is one whose first variables are handed in.
func function(params, vars int, does ...part) api.Func {
	return api.Func{Params: params, Vars: vars, Body: together(does...)}
}

// together is parts, one behind the other.
func together(parts ...part) part { return slices.Concat(parts...) }

// each is a part for each one of a list, one behind the other.
func each[T any](list []T, of func(x T) part) part {
	return together(mapped(list, of)...)
}

// mapped is what is made of each one of a list.
func mapped[T, U any](list []T, of func(x T) U) []U {
	all := make([]U, 0, len(list))
	for _, x := range list {
		all = append(all, of(x))
	}
	return all
}

// joined is all of a list that has one at least, in one. It goes by halves, as expressions may be nested a few times alone.
func joined[T any](list []T, join func(x, y T) T) T {
	if len(list) == 1 {
		return list[0]
	}
	half := len(list) / 2
	return join(joined(list[:half], join), joined(list[half:], join))
}

// upTo is so many numbers, from 0 on.
func upTo(n uint64) []uint64 {
	all := make([]uint64, 0, n)
	for i := range n {
		all = append(all, i)
	}
	return all
}
