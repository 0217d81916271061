package onestep

import (
	"math"

	"proctor/api"
	"proctor/rlp"
)

// The members of a proof's list: PC is the first one, the registers stand behind it.
const (
	regsAt    = 1
	statusAt  = regsAt + 16
	depthAt   = statusAt + 1
	rootAt    = depthAt + 1
	touchedAt = rootAt + 1
	preAt     = touchedAt + 1
	members   = preAt + 1
)

// The members of an entry's list: the address, the value, and the path behind them.
const (
	pathAt = 2
	// How many bytes an entry without a path has at least, and a sum of its path.
	leastEntry = 3
	sumBytes   = 1 + len(api.Hash{})
)

// maxDepth is the depth of the tree of MaxWords words.
const maxDepth = 12

// Write is the bytes of a proof, or ErrArg.
func Write(p api.StepProof) ([]byte, api.Errno) {
	if p.Depth < 0 || p.Depth > maxDepth || p.Status > api.Trapped || areMany(p.Touched) {
		return nil, api.ErrArg
	}
	return rlp.Encode(itemOf(p))
}

// Read is the proof that has just these bytes, or what is wrong with them.
func Read(b []byte) (api.StepProof, api.Errno) {
	x, e := rlp.Decode(b)
	if e != api.OK {
		return api.StepProof{}, e
	}
	return guarded(func() api.StepProof { return proofOf(x) })
}

// areMany says whether entries are longer than layer 2 allows, even if their numbers are short. It is asked ahead of making items of them, for lists that stand in many entries can be far more than there is room for.
func areMany(entries []api.Access) bool {
	left := api.MaxBytes
	for _, x := range entries {
		if left < leastEntry || len(x.Path) > (left-leastEntry)/sumBytes {
			return true
		}
		left -= leastEntry + len(x.Path)*sumBytes
	}
	return false
}

// itemOf is a proof's item.
func itemOf(p api.StepProof) api.Item {
	list := append([]api.Item{rlp.Num(p.PC)}, each(p.Regs[:], rlp.Num)...)
	list = append(list, rlp.Num(uint64(p.Status)), rlp.Num(uint64(p.Depth)), sumItem(p.Root))
	return listItem(append(list, listItem(each(p.Touched, entryItem)), api.Item{Bytes: p.Pre}))
}

func entryItem(x api.Access) api.Item {
	return listItem(append([]api.Item{rlp.Num(x.Addr), rlp.Num(x.Value)}, each(x.Path, sumItem)...))
}

func sumItem(h api.Hash) api.Item { return api.Item{Bytes: h[:]} }

func listItem(list []api.Item) api.Item { return api.Item{IsList: true, List: list} }

// proofOf is the proof whose item x is; others are refused.
func proofOf(x api.Item) api.StepProof {
	list := listOf(x)
	if len(list) != members {
		panic(refusal{api.ErrForm})
	}
	return api.StepProof{
		PC:      numberOf(list[0]),
		Regs:    [16]uint64(each(list[regsAt:statusAt], numberOf)),
		Status:  api.Status(atMost(list[statusAt], uint64(api.Trapped))),
		Depth:   int(atMost(list[depthAt], maxDepth)),
		Root:    sumOf(list[rootAt]),
		Touched: each(listOf(list[touchedAt]), entryOf),
		Pre:     bytesOf(list[preAt]),
	}
}

func entryOf(x api.Item) api.Access {
	list := listOf(x)
	if len(list) < pathAt {
		panic(refusal{api.ErrForm})
	}
	return api.Access{Addr: numberOf(list[0]), Value: numberOf(list[1]), Path: each(list[pathAt:], sumOf)}
}

func listOf(x api.Item) []api.Item {
	if !x.IsList {
		panic(refusal{api.ErrForm})
	}
	return x.List
}

func bytesOf(x api.Item) []byte {
	if x.IsList {
		panic(refusal{api.ErrForm})
	}
	return x.Bytes
}

func sumOf(x api.Item) api.Hash {
	b := bytesOf(x)
	if len(b) != len(api.Hash{}) {
		panic(refusal{api.ErrForm})
	}
	return api.Hash(b)
}

func numberOf(x api.Item) uint64 { return atMost(x, math.MaxUint64) }

// atMost is a number that its field has room for: it is held against it ahead of all that would cut it.
func atMost(x api.Item, most uint64) uint64 {
	n, e := rlp.ReadNum(x)
	if e != api.OK || n > most {
		panic(refusal{api.ErrForm})
	}
	return n
}

// each is what f makes of each one of a list.
func each[A, B any](list []A, f func(A) B) []B {
	made := make([]B, 0, len(list))
	for _, x := range list {
		made = append(made, f(x))
	}
	return made
}
