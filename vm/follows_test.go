package vm

import (
	"encoding/binary"
	"math/rand"
	"slices"
	"testing"

	"proctor/api"
)

// course are the machines behind 0, 1, 2, .. steps, up to the one that is not Running, or to most steps, by the second judge.
func course(m api.Machine, known []api.Hashed, most int) []api.Machine {
	all := []api.Machine{copyOf(m)}
	for len(all) <= most && all[len(all)-1].Status == api.Running {
		all = append(all, judged(all[len(all)-1], known))
	}
	return all
}

// wantRuns holds Run of each fuel up to most against the second judge, and runs in two parts against the whole.
func wantRuns(t *testing.T, m api.Machine, known []api.Hashed, most int) []api.Machine {
	t.Helper()
	all := course(m, known, most)
	last := len(all) - 1
	for fuel := range most + 1 {
		n, steps, e := Run(m, known, fuel)
		if e != api.OK || steps != min(fuel, last) || !Same(n, all[min(fuel, last)]) {
			t.Fatalf("Run(%d): PC %d, %d, %d steps, %d, want PC %d, %d", fuel, n.PC, n.Status, steps, e, all[min(fuel, last)].PC, all[min(fuel, last)].Status)
		}
		o, more, e := Run(n, known, most-fuel)
		if e != api.OK || steps+more != last || !Same(o, all[last]) {
			t.Fatalf("cut at %d: PC %d, %d, %d steps, %d", fuel, o.PC, o.Status, more, e)
		}
	}
	return all
}

// P10.4: runs that halt, that trap and that go on, cut at every place.
func TestRunsInParts(t *testing.T) {
	x := hashed([]byte("a text of some bytes"))
	count := []api.Code{in(api.LI, 1, 0, 0, 9), in(api.LI, 2, 0, 0, 1), in(api.SUB, 1, 1, 2, 0), in(api.ST, 1, 1, 0, 16), in(api.JNZ, 1, 0, 0, 2)}
	for _, c := range []struct {
		code []api.Code
		end  api.Status
	}{
		{append(slices.Clone(count), in(api.HALT, 0, 0, 0, 0)), api.Halted},
		{append(slices.Clone(count), in(api.DIV, 1, 1, 1, 0)), api.Trapped},
		{append(slices.Clone(count), in(api.JMP, 0, 0, 0, 0)), api.Running},
		{append(slices.Clone(count), in(api.LI, 5, 0, 0, 28), in(api.PRE, 6, 5, 2, 0), in(api.PLEN, 7, 5, 0, 0), in(api.HASH, 5, 5, 7, 300), in(api.PLEN, 7, 5, 0, 0)), api.Trapped},
		{[]api.Code{in(api.JR, 1, 0, 0, 0)}, api.Running},
		{nil, api.Trapped},
	} {
		m := loaded(t, 32, [16]uint64{}, c.code)
		copy(m.Mem[28:], sumWordsOf(x.Sum))
		all := wantRuns(t, m, []api.Hashed{x}, 70)
		if end := all[len(all)-1].Status; end != c.end {
			t.Errorf("Status %d, want %d", end, c.end)
		}
	}
}

// randomCode is an instruction, mostly one whose registers the machine uses.
func randomCode(r *rand.Rand, size int) api.Code {
	op := allOps()[r.Intn(25)]
	if (op == api.JR || op == api.DIV || op == api.HASH) && r.Intn(3) == 0 {
		op = api.LI
	}
	c := in(op, uint8(r.Intn(6)), uint8(r.Intn(6)), uint8(r.Intn(6)), uint32(r.Intn(size)))
	if c.Op == api.HALT && r.Intn(4) != 0 {
		c.Op = api.MOV
	}
	switch r.Intn(8) {
	case 0:
		c.Imm = r.Uint32()
	case 1:
		c.Imm = 250 + uint32(r.Intn(270))
	case 2:
		c.A, c.B, c.C = uint8(r.Intn(16)), uint8(r.Intn(16)), uint8(r.Intn(16))
	}
	if c.Op == api.HASH && r.Intn(4) != 0 {
		c.Imm = []uint32{0, 256, 257, 511}[r.Intn(4)]
	}
	return c
}

// randomMachine is a machine of instructions, with sums of what is known behind them, and registers many of which are addresses.
func randomMachine(r *rand.Rand, known []api.Hashed) api.Machine {
	size := 1 << r.Intn(9)
	m := api.Machine{Mem: make([]uint64, size), PC: uint64(r.Intn(size))}
	for i := range m.Mem {
		m.Mem[i] = Word(randomCode(r, size))
		if r.Intn(60) == 0 {
			m.Mem[i] = r.Uint64() >> r.Intn(64)
		}
	}
	for i := range m.Regs {
		m.Regs[i] = uint64(r.Intn(size))
		if r.Intn(3) == 0 {
			m.Regs[i] = []uint64{uint64(r.Intn(130)), uint64(size) - uint64(r.Intn(6)), edges()[r.Intn(len(edges()))], r.Uint64()}[r.Intn(4)]
		}
	}
	for range r.Intn(4) {
		at := r.Intn(size)
		copy(m.Mem[at:], sumWordsOf(known[r.Intn(len(known))].Sum))
		m.Regs[r.Intn(6)] = uint64(at)
	}
	return m
}

// P10.2, P10.4: machines at random, step by step, and cut at every place.
func TestRandomRuns(t *testing.T) {
	r := rand.New(rand.NewSource(10))
	known := slices.DeleteFunc(library(), func(x api.Hashed) bool { return len(x.Bytes) > 1000 })
	steps, ends, done := 0, map[api.Status]int{}, map[api.Op]int{}
	for range 3000 {
		m := randomMachine(r, known)
		all := wantRuns(t, m, known, 24)
		for i, at := range all[:len(all)-1] {
			if n := wantStep(t, at, known); !Same(n, all[i+1]) {
				t.Fatalf("the step %d", i)
			}
			if all[i+1].Status != api.Trapped {
				c, _ := Decode(at.Mem[at.PC])
				done[c.Op]++
			}
		}
		steps += len(all) - 1
		ends[all[len(all)-1].Status]++
	}
	for _, op := range allOps() {
		if done[op] < 5 {
			t.Errorf("the instruction %d was done %d times alone", op, done[op])
		}
	}
	if steps < 8000 || ends[api.Running] < 50 || ends[api.Halted] < 50 || ends[api.Trapped] < 50 {
		t.Errorf("%d steps alone, ends %v", steps, ends)
	}
}

// P10.1, P10.4: whatever the word, whatever the instruction.
func FuzzWord(f *testing.F) {
	f.Add(uint64(0), uint8(0), uint8(0), uint8(0), uint8(0), uint32(0))
	f.Add(uint64(2<<56+3<<52+5), uint8(2), uint8(3), uint8(0), uint8(0), uint32(5))
	f.Add(uint64(1<<43+25<<56), uint8(25), uint8(16), uint8(255), uint8(31), uint32(1<<32-1))
	f.Fuzz(func(t *testing.T, w uint64, op, a, b, c uint8, imm uint32) {
		wantDecoded(t, w)
		if x, ok := Decode(w); ok && Word(x) != w {
			t.Errorf("Word(Decode(%x)) = %x", w, Word(x))
		}
		x := in(api.Op(op), a, b, c, imm)
		wantDecoded(t, Word(x))
		y, ok := Decode(Word(x))
		if is := op >= 1 && op <= 25; is != ok || ok && y != in(api.Op(op), a%16, b%16, c%16, imm) {
			t.Errorf("Decode(Word(%v)) = %v, %v", x, y, ok)
		}
	})
}

// P10.2, P10.4: whatever the machine, whatever is known.
func FuzzRun(f *testing.F) {
	plain := func(words ...uint64) []byte {
		var b []byte
		for _, w := range words {
			b = binary.BigEndian.AppendUint64(b, w)
		}
		return b
	}
	f.Add(uint8(0), uint8(0), uint64(0), []byte{}, []byte{}, []byte{}, 0)
	f.Add(uint8(3), uint8(0), uint64(0), plain(0, 7), plain(Word(in(api.LI, 1, 0, 0, 7)), Word(in(api.ADD, 2, 1, 1, 0)), 1<<56), []byte{}, 9)
	f.Add(uint8(4), uint8(0), uint64(0), plain(0, 2, 8, 16), slices.Concat(plain(Word(in(api.PRE, 5, 1, 2, 0)), Word(in(api.HASH, 2, 1, 3, 256))), plain(sumWordsOf(hashed([]byte("abc")).Sum)...)), []byte("abc"), 3)
	f.Add(uint8(13), uint8(1), uint64(1<<63), plain(most), plain(1<<56), []byte("x"), -1)
	f.Fuzz(func(t *testing.T, depth, status uint8, pc uint64, regs, words, bytes []byte, fuel int) {
		m := api.Machine{PC: pc, Status: api.Status(status % 4), Mem: make([]uint64, 1<<(depth%14))}
		for i := 0; i < len(m.Mem) && 8*i+8 <= len(words); i++ {
			m.Mem[i] = binary.BigEndian.Uint64(words[8*i:])
		}
		for i := 0; i < len(m.Regs) && 8*i+8 <= len(regs); i++ {
			m.Regs[i] = binary.BigEndian.Uint64(regs[8*i:])
		}
		known := []api.Hashed{hashed(bytes), {Bytes: bytes}, hashed(bytes[:len(bytes)/2])}
		n, steps, e := Run(m, known, fuel)
		if !mayBe(m) || fuel < 0 {
			if May(m) != mayBe(m) || e != api.ErrArg || steps != 0 || !Same(n, api.Machine{}) {
				t.Fatalf("Run: %d steps, %d", steps, e)
			}
			return
		}
		if fuel > 1<<22 {
			if e != api.ErrLimit || steps != 0 || !Same(n, api.Machine{}) {
				t.Fatalf("Run: %d steps, %d", steps, e)
			}
			return
		}
		wantStep(t, m, known)
		wantRuns(t, m, known, min(fuel, 30))
	})
}
