package mem

import (
	"proctor/api"
	"proctor/sha"
	"proctor/vm"
)

// What is summed for a commitment: a mark, so that it is never what is summed for a leaf or a pair; PC and the registers; Status; the depth; and the root.
const (
	commitMark  = 2
	commitBytes = 1 + (1+16)*wordBytes + 1 + 1 + len(api.Hash{})
)

// Parts is the commitment of a configuration of which the memory's depth and root are known, or ErrArg.
func Parts(pc uint64, regs [16]uint64, s api.Status, depth int, root api.Hash) (api.Hash, api.Errno) {
	if !mayDepth(depth) || s > api.Trapped {
		return api.Hash{}, api.ErrArg
	}
	b := make([]byte, 0, commitBytes)
	b = appendWord(append(b, commitMark), pc)
	for _, r := range regs {
		b = appendWord(b, r)
	}
	b = append(b, byte(s), byte(depth))
	return sha.Sum(append(b, root[:]...)), api.OK
}

// Commit is the commitment of a machine, or ErrArg.
func Commit(m api.Machine) (api.Hash, api.Errno) {
	if !vm.May(m) {
		return api.Hash{}, api.ErrArg
	}
	root, _ := Root(m.Mem...)
	return Parts(m.PC, m.Regs, m.Status, depthOf(len(m.Mem)), root)
}
