package vm

import (
	"math"
	"slices"
	"testing"

	"proctor/api"
)

// edges are words at and about the edges that instructions have.
func edges() []uint64 {
	return []uint64{0, 1, 2, 3, 7, 8, 15, 16, 31, 32, 33, 62, 63, 64, 65, 127, 128, 129, 255, 256, 4095, 4096, 1<<32 - 1, 1 << 32, 1<<63 - 1, 1 << 63, 1<<63 + 1, most - 4096, most - 1, most}
}

// loaded is a machine of that memory with some registers.
func loaded(t *testing.T, size int, regs [16]uint64, code []api.Code, data ...uint64) api.Machine {
	t.Helper()
	m, e := Load(size, code, data...)
	if e != api.OK {
		t.Fatalf("Load: %d", e)
	}
	m.Regs = regs
	return m
}

// wantStep holds a step of a machine that may be against the second judge, Run of one step with it, and answers the machine behind it.
func wantStep(t *testing.T, m api.Machine, known []api.Hashed) api.Machine {
	t.Helper()
	kept, want := copyOf(m), judged(m, known)
	n, e := Step(m, known)
	if e != api.OK || !Same(n, want) {
		t.Fatalf("at PC %d of %d words, %x, Regs %x: Status %d, PC %d, Regs %x, %d, want Status %d, PC %d, Regs %x", m.PC, len(m.Mem), m.Mem[:min(8, len(m.Mem))], m.Regs, n.Status, n.PC, n.Regs, e, want.Status, want.PC, want.Regs)
	}
	if !Same(m, kept) {
		t.Fatalf("what was handed in is changed")
	}
	count := 0
	if m.Status == api.Running {
		count = 1
	}
	if o, steps, e := Run(m, known, 1); e != api.OK || steps != count || !Same(o, want) {
		t.Fatalf("Run of one step: %d steps, %d", steps, e)
	}
	return n
}

// wantTrap holds a step that traps: all else stays.
func wantTrap(t *testing.T, m api.Machine, known []api.Hashed) {
	t.Helper()
	n := wantStep(t, m, known)
	want := copyOf(m)
	want.Status = api.Trapped
	if !Same(n, want) {
		t.Fatalf("no trap at %x: Status %d, PC %d, Regs %x", m.Mem[:min(4, len(m.Mem))], n.Status, n.PC, n.Regs)
	}
	if again := wantStep(t, n, known); !Same(again, want) {
		t.Fatalf("a machine that trapped goes on")
	}
}

// P10.2: what each instruction from ADD to EQ comes to, written out.
func TestReckonedNumbers(t *testing.T) {
	for _, c := range []struct {
		op         api.Op
		b, c, want uint64
	}{
		{api.ADD, 7, 7, 14}, {api.ADD, most, 1, 0}, {api.ADD, most, most, most - 1}, {api.ADD, 1 << 63, 1 << 63, 0},
		{api.SUB, 9, 2, 7}, {api.SUB, 0, 1, most}, {api.SUB, 0, most, 1}, {api.SUB, 5, 0, 5}, {api.SUB, 0, 1 << 63, 1 << 63},
		{api.MUL, 6, 7, 42}, {api.MUL, most, most, 1}, {api.MUL, 1 << 32, 1 << 32, 0}, {api.MUL, most, 2, most - 1},
		{api.DIV, 7, 3, 2}, {api.DIV, 2, 3, 0}, {api.DIV, most, 1, most}, {api.DIV, most, most, 1}, {api.DIV, most, 2, 1<<63 - 1}, {api.DIV, 1 << 63, most, 0}, {api.DIV, 0, 5, 0},
		{api.REM, 7, 3, 1}, {api.REM, 2, 3, 2}, {api.REM, most, 1, 0}, {api.REM, most, 10, 5}, {api.REM, 1 << 63, most, 1 << 63}, {api.REM, 0, 5, 0},
		{api.AND, 12, 10, 8}, {api.OR, 12, 10, 14}, {api.XOR, 12, 10, 6}, {api.AND, most, 5, 5}, {api.OR, most, 5, most}, {api.XOR, most, 5, most - 5},
		{api.SHL, 3, 2, 12}, {api.SHL, 3, 63, 1 << 63}, {api.SHL, 3, 64, 0}, {api.SHL, 3, 65, 0}, {api.SHL, most, most, 0}, {api.SHL, 9, 0, 9}, {api.SHL, 1, 1 << 32, 0}, {api.SHL, 1, 256, 0},
		{api.SHR, 12, 2, 3}, {api.SHR, most, 63, 1}, {api.SHR, most, 64, 0}, {api.SHR, most, 65, 0}, {api.SHR, most, most, 0}, {api.SHR, 9, 0, 9}, {api.SHR, most, 1 << 32, 0}, {api.SHR, most, 256, 0},
		{api.LTU, 1, 2, 1}, {api.LTU, 2, 1, 0}, {api.LTU, 2, 2, 0}, {api.LTU, 1, most, 1}, {api.LTU, most, 1, 0}, {api.LTU, 1<<63 - 1, 1 << 63, 1}, {api.LTU, 0, 0, 0},
		{api.EQ, 1, 2, 0}, {api.EQ, 2, 2, 1}, {api.EQ, most, most, 1}, {api.EQ, 0, 1 << 63, 0}, {api.EQ, 0, 0, 1},
	} {
		m := loaded(t, 2, [16]uint64{5: 99, 6: c.b, 7: c.c}, []api.Code{in(c.op, 5, 6, 7, 1<<32-1)})
		want := copyOf(m)
		want.PC, want.Regs[5] = 1, c.want
		if n := wantStep(t, m, nil); !Same(n, want) {
			t.Errorf("%d of %d and %d: %d, PC %d, want %d", c.op, c.b, c.c, n.Regs[5], n.PC, c.want)
		}
	}
}

// P10.2: every two words of edges, with registers that are three, two, and one.
func TestReckoning(t *testing.T) {
	for op := api.ADD; op <= api.EQ; op++ {
		for _, x := range edges() {
			for _, y := range edges() {
				for _, r := range [][3]uint8{{1, 2, 3}, {2, 2, 3}, {3, 2, 3}, {0, 15, 14}, {15, 0, 0}, {4, 4, 4}} {
					m := api.Machine{Mem: []uint64{Word(in(op, r[0], r[1], r[2], 0))}}
					m.Regs[r[1]], m.Regs[r[2]] = x, y
					if n := wantStep(t, m, nil); n.Status == api.Running && n.PC != 1 {
						t.Fatalf("PC %d", n.PC)
					}
				}
			}
		}
	}
}

// P10.2: to divide by 0 traps, whatever is divided, and by whatever register.
func TestDivisionByNought(t *testing.T) {
	for _, op := range []api.Op{api.DIV, api.REM} {
		for _, x := range edges() {
			wantTrap(t, loaded(t, 4, [16]uint64{1: 5, 2: x}, []api.Code{in(op, 1, 2, 3, 7)}), nil)
			wantTrap(t, loaded(t, 4, [16]uint64{2: x}, []api.Code{in(op, 2, 2, 3, 7)}), nil)
			wantTrap(t, loaded(t, 4, [16]uint64{2: x}, []api.Code{in(op, 3, 2, 3, 7)}), nil)
			wantTrap(t, loaded(t, 4, [16]uint64{2: x}, []api.Code{in(op, 3, 3, 3, 7)}), nil)
		}
	}
}

// P10.2: LI, LIH and MOV, into every register, with the greatest Imm.
func TestMoves(t *testing.T) {
	for _, c := range []struct {
		c            api.Code
		before, want uint64
	}{
		{in(api.LI, 1, 9, 9, 0), most, 0}, {in(api.LI, 1, 0, 0, 1<<32-1), most, 1<<32 - 1}, {in(api.LI, 1, 1, 1, 7), 5, 7},
		{in(api.LIH, 1, 9, 9, 0), 7, 7 << 32}, {in(api.LIH, 1, 0, 0, 5), 7, 7<<32 + 5}, {in(api.LIH, 1, 0, 0, 1<<32-1), most, most}, {in(api.LIH, 1, 0, 0, 1<<32-1), 0, 1<<32 - 1}, {in(api.LIH, 1, 0, 0, 1), 1 << 32, 1}, {in(api.LIH, 1, 0, 0, 1<<31), 1<<31 | 1<<40, 1<<63 + 1<<31},
		{in(api.MOV, 1, 2, 9, 77), 5, 1 << 40}, {in(api.MOV, 1, 1, 2, 77), 5, 5}, {in(api.MOV, 1, 15, 2, 77), 5, 0},
	} {
		n := wantStep(t, loaded(t, 1, [16]uint64{1: c.before, 2: 1 << 40}, []api.Code{c.c}), nil)
		if want := ([16]uint64{1: c.want, 2: 1 << 40}); n.Regs != want || n.PC != 1 || n.Status != api.Running {
			t.Errorf("%v of %d: %d, PC %d, %d", c.c, c.before, n.Regs, n.PC, n.Status)
		}
	}
	for a := range uint8(16) {
		for b := range uint8(16) {
			for _, op := range []api.Op{api.LI, api.LIH, api.MOV} {
				m := loaded(t, 2, [16]uint64{}, []api.Code{in(op, a, b, 15-a, 1<<32-1)})
				for i := range m.Regs {
					m.Regs[i] = most - uint64(i)<<32 - uint64(i)
				}
				wantStep(t, m, nil)
			}
		}
	}
}

// P10.2: HALT leaves PC and all registers, whatever A, B, C and Imm stand in it.
func TestHalt(t *testing.T) {
	for registers := range uint64(4096) {
		m := api.Machine{PC: 1, Regs: [16]uint64{0: 1, 15: most}, Mem: []uint64{0, 1<<56 | registers<<44 | registers*registers}}
		want := copyOf(m)
		want.Status = api.Halted
		if n := wantStep(t, m, nil); !Same(n, want) {
			t.Fatalf("HALT: PC %d, %d", n.PC, n.Status)
		}
	}
}

// P10.2: every Op from 0 to 255, alone and with each of the twelve bits: what is no instruction traps.
func TestFetchedWords(t *testing.T) {
	for op := range uint64(256) {
		m := api.Machine{Mem: make([]uint64, 16), Regs: [16]uint64{1: 8, 2: 4, 3: 3}}
		m.Mem[0] = op<<56 | 0x123<<44
		n := wantStep(t, m, nil)
		if op < 1 || op > 25 {
			wantTrap(t, m, nil)
		} else if op < 24 && n.Status == api.Trapped {
			t.Errorf("Op %d traps", op)
		}
		for bit := 32; bit < 44; bit++ {
			m.Mem[0] = op<<56 | 0x123<<44 | 1<<bit
			wantTrap(t, m, nil)
		}
	}
}

// P10.2: PC at the last word, one behind it, and far off, for memories of every size.
func TestFetchAtTheEdges(t *testing.T) {
	for size := 1; size <= 4096; size *= 2 {
		for op := range api.PLEN + 3 {
			m := api.Machine{Mem: slices.Repeat([]uint64{uint64(op) << 56}, size)}
			m.PC = uint64(size) - 1
			n := wantStep(t, m, nil)
			if op >= api.LI && op <= api.MUL && (n.PC != uint64(size) || n.Status != api.Running) {
				t.Errorf("Op %d at the last of %d words: PC %d, %d", op, size, n.PC, n.Status)
			}
			for _, pc := range []uint64{uint64(size), uint64(size) + 1, 2 * uint64(size), 4097, 1 << 32, 1 << 63, most - 1, most} {
				m.PC = pc
				wantTrap(t, m, nil)
			}
		}
	}
	m := loaded(t, 2, [16]uint64{}, []api.Code{in(api.LI, 1, 0, 0, 3), in(api.LI, 2, 0, 0, 4)})
	n, steps, e := Run(m, nil, 9)
	if e != api.OK || steps != 3 || n.Status != api.Trapped || n.PC != 2 || n.Regs[1] != 3 || n.Regs[2] != 4 {
		t.Errorf("beyond the last word: PC %d, %d, %d steps, %d", n.PC, n.Status, steps, e)
	}
}

// P10.2: LD and ST at addresses that the memory has and has not, with sums that wrap.
func TestLoadsAndStores(t *testing.T) {
	for size := uint64(1); size <= 64; size *= 4 {
		last := size - 1
		for _, c := range []struct {
			b   uint64
			imm uint32
			at  uint64
		}{
			{0, 0, 0}, {last, 0, last}, {0, uint32(last), last}, {most, 1, 0}, {most, uint32(size), last}, {most - 3, 4, 0}, {most - 1<<32 + 2, 1<<32 - 1, 0},
			{size, 0, most}, {0, uint32(size), most}, {most, 0, most}, {most, uint32(size) + 1, most}, {most - 1, 1, most}, {0, 1<<32 - 1, most}, {most, 1<<32 - 1, most}, {1 << 63, 0, most}, {1 << 63, 1, most}, {4096, 0, most}, {1 << 32, 0, most},
		} {
			for _, op := range []api.Op{api.LD, api.ST} {
				m := api.Machine{Mem: make([]uint64, size), Regs: [16]uint64{5: 1 << 50, 6: c.b}}
				for i := range m.Mem {
					m.Mem[i] = 1<<60 + uint64(i)
				}
				m.Mem[0] = Word(in(op, 5, 6, 9, c.imm))
				if c.at == most {
					wantTrap(t, m, nil)
					continue
				}
				want := copyOf(m)
				want.PC = 1
				if op == api.LD {
					want.Regs[5] = m.Mem[c.at]
				} else {
					want.Mem[c.at] = 1 << 50
				}
				if n := wantStep(t, m, nil); !Same(n, want) {
					t.Errorf("%d of %d words at %d and %d: Status %d", op, size, c.b, c.imm, n.Status)
				}
			}
		}
	}
}

// P10.2: LD and ST of one register that is the address, too; a word that is stored where an instruction stands is what is fetched next.
func TestStoredInstructions(t *testing.T) {
	for _, op := range []api.Op{api.LD, api.ST} {
		for at := range uint64(5) {
			wantStep(t, loaded(t, 4, [16]uint64{3: at}, []api.Code{in(op, 3, 3, 3, 0), in(op, 3, 3, 3, 2)}, 77, 78), nil)
		}
	}
	m := loaded(t, 4, [16]uint64{1: Word(in(api.LI, 2, 0, 0, 9))}, []api.Code{in(api.ST, 1, 0, 0, 1), in(api.HALT, 0, 0, 0, 0), in(api.HALT, 0, 0, 0, 0)})
	n, steps, e := Run(m, nil, 9)
	if e != api.OK || steps != 3 || n.Regs[2] != 9 || n.PC != 2 || n.Status != api.Halted || m.Mem[1] != 1<<56 {
		t.Errorf("a stored instruction: PC %d, %d, %d steps, %d", n.PC, n.Status, steps, e)
	}
}

// P10.2: jumps, taken and not, to where a word is and to where none is: only the step behind it traps.
func TestJumps(t *testing.T) {
	for _, imm := range []uint32{0, 1, 2, 3, 4, 5, 4095, 4096, 1 << 31, 1<<32 - 1} {
		to := uint64(imm)
		for _, c := range []struct {
			c       api.Code
			pc, reg uint64
		}{
			{in(api.JMP, 1, 2, 3, imm), to, 0}, {in(api.JMP, 1, 2, 3, imm), to, 9},
			{in(api.JZ, 1, 2, 3, imm), to, 0}, {in(api.JZ, 1, 2, 3, imm), 2, 1}, {in(api.JZ, 1, 2, 3, imm), 2, 1 << 63}, {in(api.JZ, 1, 2, 3, imm), 2, 1 << 32},
			{in(api.JNZ, 1, 2, 3, imm), 2, 0}, {in(api.JNZ, 1, 2, 3, imm), to, 1}, {in(api.JNZ, 1, 2, 3, imm), to, 1 << 63}, {in(api.JNZ, 1, 2, 3, imm), to, 1 << 32}, {in(api.JNZ, 1, 2, 3, imm), to, most},
			{in(api.JR, 1, 2, 3, 3), to, to}, {in(api.JR, 1, 2, 3, 3), 1<<32 + to, 1<<32 + to}, {in(api.JR, 1, 2, 3, 3), most - to, most - to},
		} {
			m := loaded(t, 4, [16]uint64{0: 1, 1: c.reg, 2: 7, 3: 8}, []api.Code{{}, c.c, in(api.HALT, 0, 0, 0, 0), in(api.HALT, 0, 0, 0, 0)})
			m.PC = 1
			want := copyOf(m)
			want.PC = c.pc
			n := wantStep(t, m, nil)
			if !Same(n, want) {
				t.Errorf("%v with %d: PC %d, %d", c.c, c.reg, n.PC, n.Status)
			}
			if c.pc >= 4 {
				wantTrap(t, n, nil)
			}
		}
	}
}

// P10.2, P10.4: a machine that is not Running stays, whatever it is at, and takes no step.
func TestMachinesThatStand(t *testing.T) {
	for _, status := range []api.Status{api.Halted, api.Trapped} {
		for w := range uint64(256) {
			for _, pc := range []uint64{0, 1, 15, 16, most} {
				m := api.Machine{PC: pc, Status: status, Regs: [16]uint64{1: 8, 2: 4, 3: 3}, Mem: slices.Repeat([]uint64{w<<56 | 0x123<<44}, 16)}
				if n := wantStep(t, m, nil); !Same(n, m) {
					t.Fatalf("Status %d, Op %d: PC %d, %d", status, w, n.PC, n.Status)
				}
				for _, fuel := range []int{0, 1, 2, 99, api.MaxFuel} {
					if n, steps, e := Run(m, nil, fuel); e != api.OK || steps != 0 || !Same(n, m) {
						t.Fatalf("Status %d, Op %d, fuel %d: %d steps, %d", status, w, fuel, steps, e)
					}
				}
			}
		}
	}
}

// wrongMachines are machines that may not be.
func wrongMachines() []api.Machine {
	halt := uint64(1) << 56
	var all []api.Machine
	for _, n := range []int{0, 3, 5, 6, 7, 9, 4095, 4097, 8192} {
		all = append(all, api.Machine{Mem: slices.Repeat([]uint64{halt}, n)}, api.Machine{Mem: slices.Repeat([]uint64{halt}, n), Status: api.Halted})
	}
	for _, status := range []api.Status{3, 4, 128, 255} {
		all = append(all, api.Machine{Mem: []uint64{halt}, Status: status}, api.Machine{Mem: make([]uint64, 3), Status: status})
	}
	return append(all, api.Machine{}, api.Machine{Mem: []uint64{}})
}

// P10.2: ErrArg of machines that may not be, and of fuel below 0, ahead of ErrLimit.
func TestWrongMachinesAndFuel(t *testing.T) {
	fuels := []int{math.MinInt, -1, 0, 1, api.MaxFuel, api.MaxFuel + 1, math.MaxInt}
	for i, m := range wrongMachines() {
		if n, e := Step(m, nil); e != api.ErrArg || !Same(n, api.Machine{}) {
			t.Errorf("%d: Step: %v, %d", i, n, e)
		}
		for _, fuel := range fuels {
			if n, steps, e := Run(m, nil, fuel); e != api.ErrArg || steps != 0 || !Same(n, api.Machine{}) {
				t.Errorf("%d: Run(%d): %v, %d, %d", i, fuel, n, steps, e)
			}
		}
	}
	for _, status := range []api.Status{api.Running, api.Halted, api.Trapped} {
		m := api.Machine{Mem: []uint64{1 << 56, 2}, Status: status, PC: 1}
		for _, fuel := range []int{math.MinInt, math.MinInt + 1, math.MinInt32, -2, -1} {
			if n, steps, e := Run(m, nil, fuel); e != api.ErrArg || steps != 0 || !Same(n, api.Machine{}) {
				t.Errorf("Run(%d): %v, %d, %d", fuel, n, steps, e)
			}
		}
		for _, fuel := range []int{api.MaxFuel + 1, 1<<22 + 1, 1 << 23, math.MaxInt32, math.MaxInt - 1, math.MaxInt} {
			if n, steps, e := Run(m, nil, fuel); e != api.ErrLimit || steps != 0 || !Same(n, api.Machine{}) {
				t.Errorf("Run(%d): %v, %d, %d", fuel, n, steps, e)
			}
		}
		if _, _, e := Run(m, nil, 0); e != api.OK {
			t.Errorf("Run(0): %d", e)
		}
	}
}

// P10.2: the chapter's runs.
func TestRuns(t *testing.T) {
	m := loaded(t, 8, [16]uint64{}, []api.Code{in(api.LI, 1, 0, 0, 7), in(api.ADD, 2, 1, 1, 0), in(api.HALT, 0, 0, 0, 0)})
	want := copyOf(m)
	want.Regs[1], want.Regs[2], want.PC, want.Status = 7, 14, 2, api.Halted
	for fuel := 3; fuel <= 99; fuel += 32 {
		if n, steps, e := Run(m, nil, fuel); e != api.OK || steps != 3 || !Same(n, want) {
			t.Errorf("Run(%d): %v, %d, %d", fuel, n, steps, e)
		}
	}
	if n, steps, e := Run(loaded(t, 1, [16]uint64{}, nil), nil, 9); e != api.OK || steps != 1 || !Same(n, api.Machine{Status: api.Trapped, Mem: []uint64{0}}) {
		t.Errorf("Run of nothing: %v, %d, %d", n, steps, e)
	}
	round := loaded(t, 2, [16]uint64{}, []api.Code{in(api.JMP, 0, 0, 0, 0)})
	for _, fuel := range []int{0, 1, 2, 9, 1000, api.MaxFuel - 1, api.MaxFuel} {
		if n, steps, e := Run(round, nil, fuel); e != api.OK || steps != fuel || !Same(n, round) {
			t.Errorf("Run(%d): %v, %d, %d", fuel, n, steps, e)
		}
	}
}

// P10.2: a run that halts with the very last step that may be, and its last step but one.
func TestLongRun(t *testing.T) {
	m := loaded(t, 8, [16]uint64{}, []api.Code{in(api.LI, 1, 0, 0, 1<<21-2), in(api.LI, 2, 0, 0, 1), in(api.MOV, 3, 2, 0, 0), in(api.SUB, 1, 1, 2, 0), in(api.JNZ, 1, 0, 0, 3), in(api.HALT, 0, 0, 0, 0)})
	n, steps, e := Run(m, nil, api.MaxFuel)
	if e != api.OK || steps != api.MaxFuel || n.Status != api.Halted || n.PC != 5 || n.Regs != [16]uint64{2: 1, 3: 1} {
		t.Errorf("Run: PC %d, %d, Regs %d, %d steps, %d", n.PC, n.Status, n.Regs, steps, e)
	}
	n, steps, e = Run(m, nil, api.MaxFuel-1)
	if e != api.OK || steps != api.MaxFuel-1 || n.Status != api.Running || n.PC != 5 {
		t.Errorf("Run of one step less: PC %d, %d, %d steps, %d", n.PC, n.Status, steps, e)
	}
}
