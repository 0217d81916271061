package onestep

import (
	"proctor/api"
	"proctor/sha"
	"proctor/vm"
)

const (
	wordBytes = 8
	sumWords  = 4
	// HASH sums a byte ahead, if its Imm is among as many numbers as bytes there are, from this one on.
	firstMark = 256
	lastMark  = 511
)

// words is a memory, or what stands for one: it gives the words that a step reads, and takes those that it writes, in the order in which they are touched. What it can't give it refuses.
type words interface {
	get(at uint64) uint64
	set(at, w uint64)
	preimage(sum api.Hash) []byte
}

// step is the configuration behind the step of the one that p has; what its memory would be, just the words know.
// Layer 10 does the step, in a memory that has no words but those that it reads: it can't tell, and so the machine's rules stand in one place alone.
func step(p api.StepProof, over words) api.Machine {
	m := api.Machine{PC: p.PC, Regs: p.Regs, Status: p.Status}
	if m.Status != api.Running {
		return m
	}
	m.Mem = make([]uint64, 1<<p.Depth)
	c := fetch(m, over)
	read, written := touched(c, m)
	bring(m.Mem, read, over)
	n, _ := vm.Step(m, asked(c, m.Mem, read, over))
	for i := range written.count {
		at := written.at + i
		over.set(at, n.Mem[at])
	}
	return n
}

// fetch brings the word at PC, and is its instruction; a zero one, if there is none.
func fetch(m api.Machine, over words) api.Code {
	own := span{m.PC, 1}
	if !own.isIn(m.Mem) {
		return api.Code{}
	}
	bring(m.Mem, own, over)
	c, _ := vm.Decode(m.Mem[m.PC])
	return c
}

// bring brings words to where they stand in a memory.
func bring(memory []uint64, s span, over words) {
	for i := range s.count {
		memory[s.at+i] = over.get(s.at + i)
	}
}

// asked is what must be known for an instruction: the preimage of the sum that it reads, if it asks for one, and does not trap ahead of that.
func asked(c api.Code, memory []uint64, read span, over words) []api.Hashed {
	if c.Op != api.PRE && c.Op != api.PLEN || read.count == 0 {
		return nil
	}
	sum := sha.From([sumWords]uint64(memory[read.at : read.at+sumWords]))
	return []api.Hashed{{Bytes: over.preimage(sum), Sum: sum}}
}

// span is some words that stand one behind the other, from an address on.
type span struct{ at, count uint64 }

// isIn says whether a memory has all of them. Of none of them the address doesn't matter.
func (s span) isIn(memory []uint64) bool {
	all := uint64(len(memory))
	return s.count == 0 || s.count <= all && s.at <= all-s.count
}

// touched are the words that an instruction reads beside its own, and those that it writes; none, if the memory lacks one of them.
func touched(c api.Code, m api.Machine) (read, written span) {
	read, written = named(c, m.Regs)
	if !read.isIn(m.Mem) || !written.isIn(m.Mem) {
		return span{}, span{}
	}
	return read, written
}

// named are the words that an instruction would read beside its own, and those that it would write, were they all there.
func named(c api.Code, regs [16]uint64) (read, written span) {
	a, b := regs[c.A], regs[c.B]
	switch c.Op {
	case api.LD:
		read = span{b + uint64(c.Imm), 1}
	case api.ST:
		written = span{b + uint64(c.Imm), 1}
	case api.HASH:
		if size := regs[c.C]; size <= api.MaxSum && mayMark(c.Imm) {
			read = span{b, (size + wordBytes - 1) / wordBytes}
			written = span{a, sumWords}
		}
	case api.PRE, api.PLEN:
		read = span{b, sumWords}
	}
	return read, written
}

// mayMark says whether a HASH may have that Imm.
func mayMark(imm uint32) bool { return imm == 0 || imm >= firstMark && imm <= lastMark }
