package vm

import "proctor/api"

// engine is a machine with a memory of its own, which is stepped in place, and what is known to it.
type engine struct {
	api.Machine
	shelf
}

// trap is what leaves a step that can't be done, and nothing else does. It leaves ahead of all that the step would change.
type trap struct{}

// run steps until the machine is not Running, at most fuel times, and tells how often.
func (e *engine) run(fuel int) (steps int) {
	defer func() {
		switch r := recover().(type) {
		case nil:
		case trap:
			e.Status = api.Trapped
		default:
			panic(r)
		}
	}()
	for steps < fuel && e.Status == api.Running {
		// Counted ahead: a step that traps is one, too.
		steps++
		e.step()
	}
	return steps
}

// step does the instruction at PC.
func (e *engine) step() {
	c, ok := Decode(*e.word(e.PC))
	if !ok {
		panic(trap{})
	}
	a, b, imm := &e.Regs[c.A], e.Regs[c.B], uint64(c.Imm)
	switch c.Op {
	case api.HALT:
		e.Status = api.Halted
		return
	case api.LI:
		*a = 0
		fallthrough
	case api.LIH:
		*a <<= immBits
		*a |= imm
	case api.MOV:
		*a = b
	case api.LD:
		*a = *e.word(b + imm)
	case api.ST:
		*e.word(b + imm) = *a
	case api.JZ, api.JNZ:
		if (*a == 0) != (c.Op == api.JZ) {
			break
		}
		fallthrough
	case api.JMP:
		e.PC = imm
		return
	case api.JR:
		e.PC = *a
		return
	case api.HASH:
		e.hash(c)
	case api.PRE:
		*a = piece(e.preimage(e.sumAt(b)), e.Regs[c.C])
	case api.PLEN:
		*a = uint64(len(e.preimage(e.sumAt(b))))
	default:
		*a = reckon(c.Op, b, e.Regs[c.C])
	}
	e.PC++
}

// reckon is what an instruction from ADD to EQ makes of two words.
func reckon(op api.Op, x, y uint64) uint64 {
	switch op {
	case api.SUB:
		y = -y
		fallthrough
	case api.ADD:
		x += y
	case api.MUL:
		x *= y
	case api.DIV:
		x /= divisor(y)
	case api.REM:
		x %= divisor(y)
	case api.AND:
		x &= y
	case api.OR:
		x |= y
	case api.XOR:
		x ^= y
	case api.SHL:
		// The language's own shifts leave 0, too, if y is 64 or more.
		x <<= y
	case api.SHR:
		x >>= y
	case api.LTU:
		x = truth(x < y)
	case api.EQ:
		x = truth(x == y)
	}
	return x
}

// divisor is a word by which may be divided.
func divisor(y uint64) uint64 {
	if y == 0 {
		panic(trap{})
	}
	return y
}

// truth is a word that says whether something is so.
func truth(so bool) uint64 {
	if so {
		return 1
	}
	return 0
}

// word is where the word at an address stands.
func (e *engine) word(at uint64) *uint64 {
	if at >= uint64(len(e.Mem)) {
		panic(trap{})
	}
	return &e.Mem[at]
}

// words are so many words from an address on, as they stand in the memory. Of none of them the address doesn't matter.
func (e *engine) words(at, count uint64) []uint64 {
	if count == 0 {
		return nil
	}
	all := uint64(len(e.Mem))
	if count > all || at > all-count {
		panic(trap{})
	}
	return e.Mem[at : at+count]
}
