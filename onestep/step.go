package onestep

import (
	"proctor/api"
	"proctor/sha"
	"proctor/vm"
)

const (
	wordBytes = 8
	sumWords  = 4
	// HASH sums a byte ahead, if its Imm is among as many numbers as bytes there are, from this one on.
	firstMark = 256
	lastMark  = 511
)

// words is a memory, or what stands for one: it gives the words that a step reads, and takes those that it writes, in the order in which they are touched. What it can't give it refuses.
type words interface {
	get(at uint64) uint64
	set(at, w uint64)
	preimage(sum api.Hash) []byte
}

// step is the configuration behind the step of the one that p has; what its memory would be, just the words know.
func step(p api.StepProof, over words) api.Machine {
	m := api.Machine{PC: p.PC, Regs: p.Regs, Status: p.Status}
	if m.Status != api.Running {
		return m
	}
	m.Mem = make([]uint64, 1<<p.Depth)
	c := fetch(m, over)
	read, written := touched(c, m)
	if read.count == 0 && written.count == 0 {
		// Layer 10 does what asks for no word but its own, and what traps: that all other words are noughts it can't tell then.
		n, _ := vm.Step(m, nil)
		return n
	}
	// What is read is not laid into that memory: it may be the word at PC once more, and be given as another one than the instruction was.
	move(c, &m.Regs, bring(read, over), written, over)
	m.PC++
	return m
}

// fetch brings the word at PC, and is its instruction; a zero one, if there is none.
func fetch(m api.Machine, over words) api.Code {
	own := span{m.PC, 1}
	if !own.isIn(m.Mem) {
		return api.Code{}
	}
	m.Mem[m.PC] = over.get(m.PC)
	c, _ := vm.Decode(m.Mem[m.PC])
	return c
}

// bring is the words of a span, as they are given.
func bring(s span, over words) []uint64 {
	given := make([]uint64, s.count)
	for i := range given {
		given[i] = over.get(s.at + uint64(i))
	}
	return given
}

// move does an instruction that touches words beside its own, all of which are there: given is what it reads.
func move(c api.Code, regs *[16]uint64, given []uint64, written span, over words) {
	switch c.Op {
	case api.LD:
		regs[c.A] = given[0]
	case api.ST:
		over.set(written.at, regs[c.A])
	case api.HASH:
		b := append(markOf(c.Imm), firstBytes(given, regs[c.C])...)
		for i, w := range sha.Words(sha.Sum(b)) {
			over.set(written.at+uint64(i), w)
		}
	case api.PRE:
		regs[c.A] = eightFrom(over.preimage(sumIn(given)), regs[c.C])
	case api.PLEN:
		regs[c.A] = uint64(len(over.preimage(sumIn(given))))
	}
}

// sumIn is the sum whose words were given.
func sumIn(given []uint64) api.Hash { return sha.From([sumWords]uint64(given)) }

// mayMark says whether a HASH may have that Imm.
func mayMark(imm uint32) bool { return imm == 0 || imm >= firstMark && imm <= lastMark }

// markOf is what a HASH of an Imm that it may have sums ahead.
func markOf(imm uint32) []byte {
	if imm == 0 {
		return nil
	}
	return []byte{byte(imm - firstMark)}
}

// firstBytes are the first bytes of some words, the highest of a word first.
func firstBytes(given []uint64, size uint64) []byte {
	b := make([]byte, size)
	for i := range b {
		b[i] = byte(given[i/wordBytes] >> (56 - 8*(i%wordBytes)))
	}
	return b
}

// eightFrom is the number of the eight bytes from a place on; noughts stand behind the end.
func eightFrom(b []byte, at uint64) uint64 {
	var eight [wordBytes]byte
	copy(eight[:], b[min(at, uint64(len(b))):])
	var w uint64
	for _, x := range eight {
		w = w<<8 | uint64(x)
	}
	return w
}

// span is some words that stand one behind the other, from an address on.
type span struct{ at, count uint64 }

// isIn says whether a memory has all of them. Of none of them the address doesn't matter.
func (s span) isIn(memory []uint64) bool {
	all := uint64(len(memory))
	return s.count == 0 || s.count <= all && s.at <= all-s.count
}

// touched are the words that an instruction reads beside its own, and those that it writes; none, if the memory lacks one of them.
func touched(c api.Code, m api.Machine) (read, written span) {
	read, written = named(c, m.Regs)
	if !read.isIn(m.Mem) || !written.isIn(m.Mem) {
		return span{}, span{}
	}
	return read, written
}

// named are the words that an instruction would read beside its own, and those that it would write, were they all there.
func named(c api.Code, regs [16]uint64) (read, written span) {
	a, b := regs[c.A], regs[c.B]
	switch c.Op {
	case api.LD:
		read = span{b + uint64(c.Imm), 1}
	case api.ST:
		written = span{b + uint64(c.Imm), 1}
	case api.HASH:
		if size := regs[c.C]; size <= api.MaxSum && mayMark(c.Imm) {
			read = span{b, (size + wordBytes - 1) / wordBytes}
			written = span{a, sumWords}
		}
	case api.PRE, api.PLEN:
		read = span{b, sumWords}
	}
	return read, written
}
