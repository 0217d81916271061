package onestep

import (
	"bytes"
	"crypto/sha256"
	"encoding/binary"
	"fmt"
	"math"
	"math/bits"
	"slices"
	"strconv"
	"strings"
	"testing"

	"proctor/api"
	"proctor/mem"
	"proctor/vm"
)

// The second judge: the chapter's words once more, with trees cut in halves from the root down, each address asked for by itself, instructions read off a word's digits and done by a switch of its own, and the library's SHA-256.

const most = math.MaxUint64

// sizes are how many words a memory may have: at the place d that of the depth d.
func sizes() []int {
	return []int{1, 2, 4, 8, 16, 32, 64, 128, 256, 512, 1024, 2048, 4096}
}

func leafBy(w uint64) api.Hash { return sha256.Sum256(binary.BigEndian.AppendUint64([]byte{0}, w)) }

func pairBy(x, y api.Hash) api.Hash { return sha256.Sum256(slices.Concat([]byte{1}, x[:], y[:])) }

// rootBy is the root of some words.
func rootBy(words []uint64) api.Hash {
	if len(words) == 1 {
		return leafBy(words[0])
	}
	half := len(words) / 2
	return pairBy(rootBy(words[:half]), rootBy(words[half:]))
}

// pathBy is the path of the word at an address.
func pathBy(words []uint64, at uint64) []api.Hash {
	if len(words) == 1 {
		return nil
	}
	half := uint64(len(words) / 2)
	if at < half {
		return append(pathBy(words[:half], at), rootBy(words[half:]))
	}
	return append(pathBy(words[half:], at-half), rootBy(words[:half]))
}

// foldBy is the root to which a word at an address folds.
func foldBy(at, w uint64, path []api.Hash) api.Hash {
	root := leafBy(w)
	for _, beside := range path {
		if at%2 == 0 {
			root = pairBy(root, beside)
		} else {
			root = pairBy(beside, root)
		}
		at /= 2
	}
	return root
}

// commitBy is the commitment of a configuration; of one that may not be, too, as long as its depth is a byte's.
func commitBy(pc uint64, regs [16]uint64, s api.Status, depth int, root api.Hash) api.Hash {
	var b bytes.Buffer
	b.WriteByte(2)
	binary.Write(&b, binary.BigEndian, pc)
	binary.Write(&b, binary.BigEndian, regs)
	b.WriteByte(byte(s))
	b.WriteByte(byte(depth))
	b.Write(root[:])
	return sha256.Sum256(b.Bytes())
}

// ownOf is the commitment that a proof itself says to be its own.
func ownOf(p api.StepProof) api.Hash { return commitBy(p.PC, p.Regs, p.Status, p.Depth, p.Root) }

// instructionOf is what the sixteen digits of a word say.
func instructionOf(w uint64) (api.Code, bool) {
	digits := fmt.Sprintf("%016x", w)
	part := func(from, to int) uint64 {
		n, _ := strconv.ParseUint(digits[from:to], 16, 64)
		return n
	}
	if part(0, 2) < 1 || part(0, 2) > 25 || digits[5:8] != "000" {
		return api.Code{}, false
	}
	return api.Code{Op: api.Op(part(0, 2)), A: uint8(part(2, 3)), B: uint8(part(3, 4)), C: uint8(part(4, 5)), Imm: uint32(part(8, 16))}, true
}

// run is so many addresses from one on, modulo 2^64, and whether a memory of a size has them all.
func run(at uint64, count int, size uint64) ([]uint64, bool) {
	var l []uint64
	for i := range count {
		l = append(l, at+uint64(i))
	}
	return l, !slices.ContainsFunc(l, func(at uint64) bool { return at >= size })
}

// reachedBy are the addresses that an instruction reads beside its own, and those that it writes; false, if it traps ahead of touching them.
func reachedBy(c api.Code, regs [16]uint64, size uint64) (read, written []uint64, ok bool) {
	ok = true
	switch c.Op {
	case api.LD:
		read, ok = run(regs[c.B]+uint64(c.Imm), 1, size)
	case api.ST:
		written, ok = run(regs[c.B]+uint64(c.Imm), 1, size)
	case api.PRE, api.PLEN:
		read, ok = run(regs[c.B], 4, size)
	case api.HASH:
		if regs[c.C] > 128 || c.Imm >= 1 && c.Imm <= 255 || c.Imm >= 512 {
			return nil, nil, false
		}
		var there bool
		read, ok = run(regs[c.B], int(math.Ceil(float64(regs[c.C])/8)), size)
		written, there = run(regs[c.A], 4, size)
		ok = ok && there
	}
	if !ok {
		return nil, nil, false
	}
	return read, written, true
}

// worked is what two words come to; false, if there is no such number.
func worked(op api.Op, x, y uint64) (uint64, bool) {
	is := map[bool]uint64{true: 1}
	switch op {
	case api.ADD:
		x, _ = bits.Add64(x, y, 0)
	case api.SUB:
		x, _ = bits.Sub64(x, y, 0)
	case api.MUL:
		_, x = bits.Mul64(x, y)
	case api.DIV, api.REM:
		if y == 0 {
			return 0, false
		}
		quotient, rest := bits.Div64(0, x, y)
		return []uint64{quotient, rest}[op-api.DIV], true
	case api.AND:
		x = ^(^x | ^y)
	case api.OR:
		x = ^(^x & ^y)
	case api.XOR:
		x = (x | y) - (x & y)
	case api.SHL:
		for range min(y, 64) {
			x += x
		}
	case api.SHR:
		for range min(y, 64) {
			x /= 2
		}
	case api.LTU:
		_, x = bits.Sub64(x, y, 0)
	case api.EQ:
		x = is[x == y]
	default:
		x = y
	}
	return x, true
}

// bytesBy are words one behind the other as bytes.
func bytesBy(words []uint64) []byte {
	var b []byte
	for _, w := range words {
		b = binary.BigEndian.AppendUint64(b, w)
	}
	return b
}

// doneBy is what an instruction makes of a configuration, told what it read, and what it writes; false, if it traps. Of PRE and PLEN pre is the preimage.
func doneBy(m api.Machine, c api.Code, read []uint64, pre []byte) (n api.Machine, written []uint64, ok bool) {
	a, b, imm := m.Regs[c.A], m.Regs[c.B], uint64(c.Imm)
	next, to := m.PC+1, a
	switch c.Op {
	case api.HALT:
		m.Status, next = api.Halted, m.PC
	case api.LI:
		to = imm
	case api.LIH:
		to = a*(1<<32) + imm
	case api.MOV:
		to = b
	case api.LD:
		to = read[0]
	case api.ST:
		written = []uint64{a}
	case api.JMP:
		next = imm
	case api.JZ, api.JNZ:
		if (a == 0) == (c.Op == api.JZ) {
			next = imm
		}
	case api.JR:
		next = a
	case api.HASH:
		var ahead []byte
		if c.Imm >= 256 {
			ahead = []byte{byte(c.Imm - 256)}
		}
		sum := sha256.Sum256(append(ahead, bytesBy(read)[:m.Regs[c.C]]...))
		for i := range 4 {
			written = append(written, binary.BigEndian.Uint64(sum[8*i:]))
		}
	case api.PLEN:
		to = uint64(len(pre))
	case api.PRE:
		to = 0
		for i := range uint64(8) {
			to *= 256
			if at := m.Regs[c.C] + i; at >= i && at < uint64(len(pre)) {
				to += uint64(pre[at])
			}
		}
	default:
		if to, ok = worked(c.Op, b, m.Regs[c.C]); !ok {
			return m, nil, false
		}
	}
	m.Regs[c.A], m.PC = to, next
	return m, written, true
}

// checkedBy is what a proof comes to against a commitment.
func checkedBy(before api.Hash, p api.StepProof) (api.Hash, bool) {
	if p.Depth < 0 || p.Depth > 12 || p.Status > 2 || ownOf(p) != before {
		return api.Hash{}, false
	}
	size, root, place := uint64(sizes()[p.Depth]), p.Root, 0
	take := func(at uint64) (uint64, bool) {
		place++
		if place > len(p.Touched) {
			return 0, false
		}
		x := p.Touched[place-1]
		return x.Value, x.Addr == at && len(x.Path) == p.Depth && foldBy(at, x.Value, x.Path) == root
	}
	m := api.Machine{PC: p.PC, Regs: p.Regs, Status: p.Status}
	tell := func(n api.Machine, asked bool) (api.Hash, bool) {
		if place != len(p.Touched) || !asked && len(p.Pre) > 0 {
			return api.Hash{}, false
		}
		return commitBy(n.PC, n.Regs, n.Status, p.Depth, root), true
	}
	trapped := m
	trapped.Status = api.Trapped
	if m.Status != api.Running {
		return tell(m, false)
	}
	if m.PC >= size {
		return tell(trapped, false)
	}
	w, ok := take(m.PC)
	if !ok {
		return api.Hash{}, false
	}
	c, ok := instructionOf(w)
	if !ok {
		return tell(trapped, false)
	}
	from, to, ok := reachedBy(c, m.Regs, size)
	if !ok {
		return tell(trapped, false)
	}
	var read []uint64
	for _, at := range from {
		w, ok := take(at)
		if !ok {
			return api.Hash{}, false
		}
		read = append(read, w)
	}
	asks := c.Op == api.PRE || c.Op == api.PLEN
	if asks && sha256.Sum256(p.Pre) != [32]byte(bytesBy(read)) {
		return api.Hash{}, false
	}
	n, written, ok := doneBy(m, c, read, p.Pre)
	if !ok {
		return tell(trapped, asks)
	}
	for i, at := range to {
		if _, ok := take(at); !ok {
			return api.Hash{}, false
		}
		root = foldBy(at, written[i], p.Touched[place-1].Path)
	}
	return tell(n, asks)
}

// proofBy is the proof of a machine's step; or the error.
func proofBy(m api.Machine, known []api.Hashed) (api.StepProof, api.Errno) {
	depth := slices.Index(sizes(), len(m.Mem))
	if depth < 0 || m.Status > 2 {
		return api.StepProof{}, api.ErrArg
	}
	words := slices.Clone(m.Mem)
	p := api.StepProof{PC: m.PC, Regs: m.Regs, Status: m.Status, Depth: depth, Root: rootBy(words)}
	if m.Status != api.Running || m.PC >= uint64(len(words)) {
		return p, api.OK
	}
	touch := func(at uint64) uint64 {
		p.Touched = append(p.Touched, api.Access{Addr: at, Value: words[at], Path: pathBy(words, at)})
		return words[at]
	}
	c, ok := instructionOf(touch(m.PC))
	if !ok {
		return p, api.OK
	}
	from, to, ok := reachedBy(c, m.Regs, uint64(len(words)))
	if !ok {
		return p, api.OK
	}
	var read []uint64
	for _, at := range from {
		read = append(read, touch(at))
	}
	if c.Op == api.PRE || c.Op == api.PLEN {
		sum := api.Hash(bytesBy(read))
		i := slices.IndexFunc(known, func(x api.Hashed) bool { return x.Sum == sum })
		if i < 0 || sha256.Sum256(known[i].Bytes) != sum {
			return api.StepProof{}, api.ErrShort
		}
		p.Pre = known[i].Bytes
	}
	_, written, _ := doneBy(m, c, read, p.Pre)
	for i, at := range to {
		touch(at)
		words[at] = written[i]
	}
	return p, api.OK
}

func sameAccess(x, y api.Access) bool {
	return x.Addr == y.Addr && x.Value == y.Value && slices.Equal(x.Path, y.Path)
}

// same says whether two proofs are the same, nil and empty lists alike.
func same(p, q api.StepProof) bool {
	return p.PC == q.PC && p.Regs == q.Regs && p.Status == q.Status && p.Depth == q.Depth && p.Root == q.Root && slices.EqualFunc(p.Touched, q.Touched, sameAccess) && bytes.Equal(p.Pre, q.Pre)
}

// twin is a proof once more, in memory of its own.
func twin(p api.StepProof) api.StepProof {
	p.Touched = slices.Clone(p.Touched)
	for i := range p.Touched {
		p.Touched[i].Path = slices.Clone(p.Touched[i].Path)
	}
	p.Pre = bytes.Clone(p.Pre)
	return p
}

// shown is a proof as a short text.
func shown(p api.StepProof) string {
	var b strings.Builder
	fmt.Fprintf(&b, "PC %d, Status %d, Depth %d, Root %.4x, touched", p.PC, p.Status, p.Depth, p.Root)
	for _, x := range p.Touched {
		fmt.Fprintf(&b, " %d:%x(%d)", x.Addr, x.Value, len(x.Path))
	}
	fmt.Fprintf(&b, ", Pre %.20x of %d", p.Pre, len(p.Pre))
	return b.String()
}

// wantMade holds Make against the judge, and what is told of it against Check, vm.Step and the bytes.
func wantMade(t *testing.T, m api.Machine, known []api.Hashed) api.StepProof {
	t.Helper()
	want, wrong := proofBy(m, known)
	p, e := Make(m, known)
	if e != wrong || !same(p, want) {
		t.Fatalf("Make = %s, %d, want %s, %d", shown(p), e, shown(want), wrong)
	}
	if wrong != api.OK {
		return p
	}
	n, e := vm.Step(m, known)
	before := ownOf(p)
	after := commitBy(n.PC, n.Regs, n.Status, p.Depth, rootBy(n.Mem))
	if h, f := mem.Commit(m); e != api.OK || f != api.OK || h != before {
		t.Fatalf("%s: the commitment is another one", shown(p))
	}
	if h, ok := Check(before, p); h != after || !ok {
		t.Fatalf("%s: Check = %x, %v, want %x", shown(p), h, ok, after)
	}
	wantJudged(t, before, p)
	if b, e := Write(p); e == api.OK {
		if q, f := Read(b); f != api.OK || !same(p, q) {
			t.Fatalf("%s: Read = %s, %d", shown(p), shown(q), f)
		}
	} else if len(p.Pre) < 60000 {
		t.Fatalf("%s: Write: %d", shown(p), e)
	}
	return p
}

// wantJudged holds Check against the judge.
func wantJudged(t *testing.T, before api.Hash, p api.StepProof) bool {
	t.Helper()
	want, is := checkedBy(before, p)
	if h, ok := Check(before, p); h != want || ok != is {
		t.Fatalf("%s: Check = %x, %v, want %x, %v", shown(p), h, ok, want, is)
	}
	return is
}

// wantLie asks that a proof does not check against a commitment; against its own one it is held against the judge.
func wantLie(t *testing.T, before api.Hash, p api.StepProof) {
	t.Helper()
	if h, ok := Check(before, p); ok || h != (api.Hash{}) {
		t.Fatalf("%s: Check = %x, %v", shown(p), h, ok)
	}
	wantJudged(t, ownOf(p), p)
}
