package onestep

import (
	"crypto/sha256"
	"encoding/binary"
	"math/rand"
	"slices"
	"testing"

	"proctor/api"
	"proctor/vm"
)

// A step over what gives words and takes them, be these ever so fickle: below Check, where no two byte strings with one sum are needed for two words at one address.

// touch is a word that is given, or that is taken.
type touch struct {
	at, w uint64
	taken bool
}

// fickle gives words in a row of its own, whatever it gave ahead at the same address; it notes what is asked of it.
type fickle struct {
	row     []uint64
	pre     []byte
	touches []touch
	sums    []api.Hash
}

func (f *fickle) get(at uint64) uint64 {
	w := f.row[0]
	f.row = f.row[1:]
	f.touches = append(f.touches, touch{at, w, false})
	return w
}

func (f *fickle) set(at, w uint64) { f.touches = append(f.touches, touch{at, w, true}) }

func (f *fickle) preimage(sum api.Hash) []byte {
	f.sums = append(f.sums, sum)
	return f.pre
}

// steppedBy is what the judge says of a step over a row of words: the configuration behind it, what is touched, and the sums whose preimages are asked for.
func steppedBy(p api.StepProof, row []uint64, pre []byte) (api.Machine, []touch, []api.Hash) {
	m := api.Machine{PC: p.PC, Regs: p.Regs, Status: p.Status}
	trapped := m
	trapped.Status = api.Trapped
	size := uint64(sizes()[p.Depth])
	switch {
	case m.Status != api.Running:
		return m, nil, nil
	case m.PC >= size:
		return trapped, nil, nil
	}
	touches := []touch{{m.PC, row[0], false}}
	c, ok := instructionOf(row[0])
	if !ok {
		return trapped, touches, nil
	}
	from, to, ok := reachedBy(c, m.Regs, size)
	if !ok {
		return trapped, touches, nil
	}
	read := row[1 : 1+len(from)]
	for i, at := range from {
		touches = append(touches, touch{at, read[i], false})
	}
	var sums []api.Hash
	if c.Op == api.PRE || c.Op == api.PLEN {
		sums = append(sums, api.Hash(bytesBy(read)))
	}
	n, written, ok := doneBy(m, c, read, pre)
	if !ok {
		return trapped, touches, sums
	}
	for i, at := range to {
		touches = append(touches, touch{at, written[i], true})
	}
	return n, touches, sums
}

// wantStepped holds a step over a row of words against the judge.
func wantStepped(t *testing.T, p api.StepProof, row []uint64, pre []byte) api.Machine {
	t.Helper()
	want, touches, sums := steppedBy(p, row, pre)
	over := &fickle{row: row, pre: pre}
	n := step(p, over)
	if n.PC != want.PC || n.Regs != want.Regs || n.Status != want.Status {
		t.Fatalf("%s over %x: PC %d, Status %d, %x; want PC %d, Status %d, %x", shown(p), row, n.PC, n.Status, n.Regs, want.PC, want.Status, want.Regs)
	}
	if !slices.Equal(over.touches, touches) || !slices.Equal(over.sums, sums) {
		t.Fatalf("%s over %x: touches %v, %x; want %v, %x", shown(p), row, over.touches, over.sums, touches, sums)
	}
	return n
}

// others are words that may stand where an instruction was: instructions of all kinds, and words that are none.
func others() []uint64 {
	l := []uint64{0, 1, most, 26 << 56, 1<<56 | 1<<32, 1 << 63}
	for _, op := range allOps() {
		l = append(l, vm.Word(in(op, 1, 0, 0, 0)), vm.Word(in(op, 15, 3, 9, 257)), vm.Word(in(op, 3, 3, 3, 1<<32-1)))
	}
	return l
}

// P12.2: LD of its own word is done with what is read, not with what was fetched.
func TestLoadOfItsOwnWord(t *testing.T) {
	halt := vm.Word(in(api.HALT, 0, 0, 0, 0))
	for depth := range 13 {
		for _, x := range []uint64{0, 1<<depth - 1} {
			p := api.StepProof{PC: x, Regs: [16]uint64{1: 5, 7: 9}, Depth: depth}
			load := vm.Word(in(api.LD, 1, 0, 0, uint32(x)))
			n := wantStepped(t, p, []uint64{load, halt}, nil)
			if n.PC != x+1 || n.Status != api.Running || n.Regs != [16]uint64{1: halt, 7: 9} {
				t.Errorf("PC %d, Status %d, %x", n.PC, n.Status, n.Regs)
			}
			for _, w := range others() {
				n := wantStepped(t, p, []uint64{load, w}, nil)
				if n.PC != x+1 || n.Status != api.Running || n.Regs[1] != w {
					t.Errorf("LD of %x: PC %d, Status %d, %x", w, n.PC, n.Status, n.Regs)
				}
			}
		}
	}
}

// P12.2: HASH that sums its own word sums what is read, wherever that stands among the words, and wherever it writes.
func TestHashOfItsOwnWord(t *testing.T) {
	for _, count := range []uint64{1, 7, 8, 9, 24, 63, 64} {
		for own := range (count + 7) / 8 {
			for _, to := range []uint64{0, min(own, 4), 4} {
				for _, w := range others() {
					p := api.StepProof{PC: own, Regs: [16]uint64{1: to, 3: count}, Depth: 3}
					row := append([]uint64{vm.Word(in(api.HASH, 1, 2, 3, 300))}, filled(8)...)
					row[1+own] = w
					over := &fickle{row: row}
					n := step(p, over)
					sum := sha256.Sum256(append([]byte{44}, bytesBy(row[1:])[:count]...))
					last := over.touches[len(over.touches)-4:]
					for i, x := range last {
						if want := (touch{to + uint64(i), binary.BigEndian.Uint64(sum[8*i:]), true}); x != want {
							t.Fatalf("HASH of %d bytes, its own word being %d: %v", count, own, last)
						}
					}
					if n.PC != own+1 || n.Status != api.Running || n.Regs != p.Regs {
						t.Fatalf("PC %d, Status %d, %x", n.PC, n.Status, n.Regs)
					}
					wantStepped(t, p, row, nil)
				}
			}
		}
	}
}

// P12.2: PRE and PLEN of a sum of which their own word is a part ask for the preimage of what is read.
func TestPreimageOverItsOwnWord(t *testing.T) {
	pre := []byte("twelve bytes")
	for _, op := range []api.Op{api.PRE, api.PLEN} {
		for own := range uint64(4) {
			for _, w := range others() {
				p := api.StepProof{PC: own, Regs: [16]uint64{4: 8}, Depth: 2}
				row := append([]uint64{vm.Word(in(op, 5, 0, 4, 0))}, filled(4)...)
				row[1+own] = w
				n := wantStepped(t, p, row, pre)
				want := map[api.Op]uint64{api.PRE: 0x7974_6573 << 32, api.PLEN: 12}[op]
				if n.PC != own+1 || n.Status != api.Running || n.Regs != [16]uint64{4: 8, 5: want} {
					t.Fatalf("PC %d, Status %d, %x", n.PC, n.Status, n.Regs)
				}
			}
		}
	}
}

// P12.2: an instruction that writes over its own word is done as it was fetched, and no word is read for that.
func TestWritesOverItsOwnWord(t *testing.T) {
	for own := range uint64(4) {
		p := api.StepProof{PC: own, Regs: [16]uint64{1: 99, 9: most}, Depth: 2}
		n := wantStepped(t, p, []uint64{vm.Word(in(api.ST, 1, 0, 0, uint32(own)))}, nil)
		if n.PC != own+1 || n.Status != api.Running {
			t.Errorf("PC %d, Status %d", n.PC, n.Status)
		}
		wantStepped(t, p, []uint64{vm.Word(in(api.HASH, 0, 9, 2, 256))}, nil)
	}
}

// P12.2: whatever is given, at random, over memories of every size: instructions of all kinds, near and far words, registers that are the same.
func TestFickleWords(t *testing.T) {
	r := rand.New(rand.NewSource(41))
	own := map[api.Op]int{}
	for range 30000 {
		depth := r.Intn(13)
		size := uint64(1) << depth
		p := api.StepProof{PC: r.Uint64() % size, Depth: depth}
		for i := range p.Regs {
			p.Regs[i] = []uint64{p.PC, p.PC - uint64(r.Intn(4)), uint64(r.Intn(131)), r.Uint64() % size, r.Uint64()}[r.Intn(5)]
		}
		row := make([]uint64, 17)
		for i := range row {
			op := api.Op(r.Intn(27))
			row[i] = vm.Word(in(op, uint8(r.Intn(16)), uint8(r.Intn(16)), uint8(r.Intn(16)), []uint32{0, 0, 1, 256, 511, uint32(p.PC), r.Uint32()}[r.Intn(7)]))
		}
		pre := make([]byte, r.Intn(40))
		r.Read(pre)
		wantStepped(t, p, row, pre)
		if _, touches, _ := steppedBy(p, row, pre); slices.ContainsFunc(touches[1:], func(x touch) bool { return x.at == p.PC }) {
			c, _ := instructionOf(row[0])
			own[c.Op]++
		}
	}
	for _, op := range []api.Op{api.LD, api.ST, api.HASH, api.PRE, api.PLEN} {
		if own[op] < 40 {
			t.Errorf("the instruction %d touched its own word %d times alone", op, own[op])
		}
	}
}

// P12.2: of words that do not change a step is what layer 10 says, the memory with it.
func TestSteadyWords(t *testing.T) {
	known := library()
	r := rand.New(rand.NewSource(42))
	for i := range 2000 {
		m := randomMachine(r, known)
		p, e := Make(m, known)
		if e != api.OK {
			continue
		}
		var row []uint64
		for _, x := range p.Touched {
			row = append(row, x.Value)
		}
		over := &fickle{row: row, pre: p.Pre}
		n := step(p, over)
		want, _ := vm.Step(m, known)
		words := slices.Clone(m.Mem)
		for _, x := range over.touches {
			if x.taken {
				words[x.at] = x.w
			}
		}
		if n.Mem = words; !vm.Same(n, want) {
			t.Fatalf("%d: %s", i, shown(p))
		}
	}
}
