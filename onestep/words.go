package onestep

import (
	"proctor/api"
	"proctor/mem"
	"proctor/merkle"
	"proctor/sha"
	"proctor/vm"
)

// watched is a memory, with what is known, of which all is noted that a step touches.
type watched struct {
	memory  *mem.Memory
	known   []api.Hashed
	touched []api.Access
	pre     []byte
}

// get notes the path as the tree stands now: what is written later changes it.
func (w *watched) get(at uint64) uint64 {
	value, _ := w.memory.Get(at)
	path, _ := w.memory.Prove(at)
	w.touched = append(w.touched, api.Access{Addr: at, Value: value, Path: path})
	return value
}

func (w *watched) set(at, value uint64) {
	w.get(at)
	w.memory.Set(at, value)
}

func (w *watched) preimage(sum api.Hash) []byte {
	b, ok := vm.Preimage(w.known, sum)
	if !ok {
		panic(refusal{api.ErrShort})
	}
	w.pre = b
	return b
}

// entries is what a proof has, in the place of a memory of which no more than the root is known.
type entries struct {
	depth int
	root  api.Hash
	next  func() (api.Access, bool)
	pre   []byte
	asked bool
}

func entriesOf(p api.StepProof) *entries {
	return &entries{depth: p.Depth, root: p.Root, next: fromFront(p.Touched), pre: p.Pre}
}

// fromFront takes one thing after the other from the front of a list; false, if none is left.
func fromFront[T any](list []T) func() (T, bool) {
	return func() (first T, ok bool) {
		if len(list) == 0 {
			return first, false
		}
		first, list = list[0], list[1:]
		return first, true
	}
}

// take is the next entry, if it is that address's and checks.
func (s *entries) take(at uint64) api.Access {
	x, ok := s.next()
	// A path of another length than the depth would be one of another tree.
	if !ok || x.Addr != at || len(x.Path) != s.depth || !mem.Check(s.root, at, x.Value, x.Path...) {
		panic(refusal{api.ErrProof})
	}
	return x
}

func (s *entries) get(at uint64) uint64 { return s.take(at).Value }

func (s *entries) set(at, value uint64) {
	x := s.take(at)
	s.root, _ = merkle.Swap(s.root, int(at), leafOf(x.Value), leafOf(value), x.Path...)
}

// preimage refuses bytes with another sum: with them the machine would trap, and that there is no preimage nobody can prove.
func (s *entries) preimage(sum api.Hash) []byte {
	if sha.Sum(s.pre) != sum {
		panic(refusal{api.ErrProof})
	}
	s.asked = true
	return s.pre
}

// end refuses what the step did not ask for.
func (s *entries) end() {
	if _, more := s.next(); more || len(s.pre) > 0 && !s.asked {
		panic(refusal{api.ErrProof})
	}
}

// leafOf is the leaf of a word: the root of a memory that has no other.
func leafOf(w uint64) api.Hash {
	h, _ := mem.Root(w)
	return h
}
