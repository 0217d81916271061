package vm

import (
	"crypto/sha256"
	"encoding/binary"
	"fmt"
	"math"
	"math/big"
	"slices"
	"strconv"

	"proctor/api"
)

// The second judge: the chapter's words once more, with instructions read off a word's hexadecimal digits, numbers that can't wrap, each word of the memory asked for by its own address, and the library's SHA-256.

const most = math.MaxUint64

func number(n uint64) *big.Int { return new(big.Int).SetUint64(n) }

// wrapped is a number modulo 2^64.
func wrapped(n *big.Int) uint64 {
	return new(big.Int).Mod(n, new(big.Int).Lsh(big.NewInt(1), 64)).Uint64()
}

// instructionOf is what the sixteen digits of a word say.
func instructionOf(w uint64) (api.Code, bool) {
	digits := fmt.Sprintf("%016x", w)
	part := func(from, to int) uint64 {
		n, _ := strconv.ParseUint(digits[from:to], 16, 64)
		return n
	}
	if part(0, 2) < 1 || part(0, 2) > 25 || digits[5:8] != "000" {
		return api.Code{}, false
	}
	return api.Code{Op: api.Op(part(0, 2)), A: uint8(part(2, 3)), B: uint8(part(3, 4)), C: uint8(part(4, 5)), Imm: uint32(part(8, 16))}, true
}

// preimageOf is the preimage of a sum, as it stands among what is known.
func preimageOf(known []api.Hashed, h api.Hash) ([]byte, bool) {
	i := slices.IndexFunc(known, func(x api.Hashed) bool { return x.Sum == h })
	if i < 0 || sha256.Sum256(known[i].Bytes) != h {
		return nil, false
	}
	return known[i].Bytes, true
}

// wordAt is the word at an address plus some more.
func wordAt(m *api.Machine, at, more uint64) (*uint64, bool) {
	place := number(wrapped(new(big.Int).Add(number(at), number(more))))
	if place.Cmp(big.NewInt(int64(len(m.Mem)))) >= 0 {
		return nil, false
	}
	return &m.Mem[place.Int64()], true
}

// wordsAt are so many words from an address on, one behind the other as bytes.
func wordsAt(m *api.Machine, at, count uint64) ([]byte, bool) {
	var b []byte
	for i := range count {
		w, ok := wordAt(m, at, i)
		if !ok {
			return nil, false
		}
		b = binary.BigEndian.AppendUint64(b, *w)
	}
	return b, true
}

// worked is what two words come to, with numbers that don't wrap; false, if there is no such number.
func worked(op api.Op, b, c uint64) (uint64, bool) {
	x, y, z := number(b), number(c), new(big.Int)
	switch op {
	case api.ADD:
		z.Add(x, y)
	case api.SUB:
		z.Sub(x, y)
	case api.MUL:
		z.Mul(x, y)
	case api.DIV, api.REM:
		if c == 0 {
			return 0, false
		}
		rest := new(big.Int)
		if z.QuoRem(x, y, rest); op == api.REM {
			z = rest
		}
	case api.AND:
		z.And(x, y)
	case api.OR:
		z.Or(x, y)
	case api.XOR:
		z.Xor(x, y)
	case api.SHL:
		if c < 64 {
			z.Lsh(x, uint(c))
		}
	case api.SHR:
		if c < 64 {
			z.Rsh(x, uint(c))
		}
	case api.LTU:
		if x.Cmp(y) < 0 {
			z.SetInt64(1)
		}
	case api.EQ:
		if x.Cmp(y) == 0 {
			z.SetInt64(1)
		}
	}
	return wrapped(z), true
}

// summed does a HASH; false, if it traps.
func summed(m *api.Machine, c api.Code) bool {
	size := m.Regs[c.C]
	if size > 128 || c.Imm >= 1 && c.Imm <= 255 || c.Imm > 511 {
		return false
	}
	b, ok := wordsAt(m, m.Regs[c.B], uint64(math.Ceil(float64(size)/8)))
	if _, there := wordsAt(m, m.Regs[c.A], 4); !ok || !there {
		return false
	}
	var all []byte
	if c.Imm != 0 {
		all = []byte{byte(c.Imm % 256)}
	}
	sum := sha256.Sum256(append(all, b[:size]...))
	for i := range uint64(4) {
		w, _ := wordAt(m, m.Regs[c.A], i)
		*w = binary.BigEndian.Uint64(sum[8*i:])
	}
	return true
}

// asked does a PRE, a PLEN; false, if it traps.
func asked(m *api.Machine, known []api.Hashed, c api.Code) bool {
	sum, ok := wordsAt(m, m.Regs[c.B], 4)
	if !ok {
		return false
	}
	b, ok := preimageOf(known, api.Hash(sum))
	if !ok {
		return false
	}
	if c.Op == api.PLEN {
		m.Regs[c.A] = uint64(len(b))
		return true
	}
	place := m.Regs[c.C]
	m.Regs[c.A] = 0
	if place < uint64(len(b)) {
		m.Regs[c.A] = binary.BigEndian.Uint64(slices.Concat(b, make([]byte, 8))[place:])
	}
	return true
}

// went does the instruction at PC; false, if it traps.
func went(m *api.Machine, known []api.Hashed) bool {
	fetched, ok := wordAt(m, m.PC, 0)
	if !ok {
		return false
	}
	c, ok := instructionOf(*fetched)
	if !ok {
		return false
	}
	a, imm := m.Regs[c.A], uint64(c.Imm)
	next := m.PC + 1
	switch c.Op {
	case api.HALT:
		m.Status, next = api.Halted, m.PC
	case api.LI:
		m.Regs[c.A] = imm
	case api.LIH:
		m.Regs[c.A] = wrapped(new(big.Int).Add(new(big.Int).Mul(number(a), number(1<<32)), number(imm)))
	case api.MOV:
		m.Regs[c.A] = m.Regs[c.B]
	case api.LD, api.ST:
		w, there := wordAt(m, m.Regs[c.B], imm)
		if !there {
			return false
		}
		if c.Op == api.LD {
			m.Regs[c.A] = *w
		} else {
			*w = a
		}
	case api.JMP:
		next = imm
	case api.JZ:
		if a == 0 {
			next = imm
		}
	case api.JNZ:
		if a != 0 {
			next = imm
		}
	case api.JR:
		next = a
	case api.HASH:
		ok = summed(m, c)
	case api.PRE, api.PLEN:
		ok = asked(m, known, c)
	default:
		var z uint64
		if z, ok = worked(c.Op, m.Regs[c.B], m.Regs[c.C]); ok {
			m.Regs[c.A] = z
		}
	}
	m.PC = next
	return ok
}

func copyOf(m api.Machine) api.Machine {
	m.Mem = slices.Clone(m.Mem)
	return m
}

// judged is the machine behind one step.
func judged(m api.Machine, known []api.Hashed) api.Machine {
	n := copyOf(m)
	if m.Status == api.Running && !went(&n, known) {
		n = copyOf(m)
		n.Status = api.Trapped
	}
	return n
}

// mayBe says whether a machine may be.
func mayBe(m api.Machine) bool {
	return slices.Contains([]int{1, 2, 4, 8, 16, 32, 64, 128, 256, 512, 1024, 2048, 4096}, len(m.Mem)) && m.Status < 3
}
