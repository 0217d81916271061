package vm

import (
	"fmt"
	"math"
	"slices"
	"testing"

	"proctor/api"
)

func in(op api.Op, a, b, c uint8, imm uint32) api.Code {
	return api.Code{Op: op, A: a, B: b, C: c, Imm: imm}
}

// allOps are the instructions' kinds, in the chapter's order.
func allOps() []api.Op {
	return []api.Op{
		api.HALT, api.LI, api.LIH, api.MOV, api.ADD, api.SUB, api.MUL, api.DIV, api.REM, api.AND, api.OR, api.XOR, api.SHL,
		api.SHR, api.LTU, api.EQ, api.LD, api.ST, api.JMP, api.JZ, api.JNZ, api.JR, api.HASH, api.PRE, api.PLEN,
	}
}

func someImms() []uint32 {
	return []uint32{0, 1, 5, 255, 256, 511, 512, 1 << 12, 1 << 31, 1<<32 - 1}
}

// P10.1: the chapter's example, and each part of a word at its place.
func TestWord(t *testing.T) {
	if w := Word(in(api.LI, 3, 0, 0, 5)); w != 2<<56+3<<52+5 {
		t.Errorf("LI 3, Imm 5 is %x", w)
	}
	for i, op := range allOps() {
		if int(op) != i+1 {
			t.Errorf("the instruction %d is %d", i+1, op)
		}
	}
	for op := range 256 {
		for _, r := range [][3]uint8{{0, 0, 0}, {15, 0, 0}, {0, 15, 0}, {0, 0, 15}, {1, 2, 3}, {9, 10, 11}, {15, 15, 15}} {
			for _, imm := range someImms() {
				w := Word(in(api.Op(op), r[0], r[1], r[2], imm))
				if got, want := fmt.Sprintf("%016x", w), fmt.Sprintf("%02x%x%x%x000%08x", op, r[0], r[1], r[2], imm); got != want {
					t.Errorf("Word(%d %d %d) = %s, want %s", op, r, imm, got, want)
				}
			}
		}
	}
}

// P10.1: of each of A, B, C just the lowest four bits.
func TestWordOfGreatRegisters(t *testing.T) {
	for r := range 256 {
		x, low := uint8(r), uint8(r%16)
		for _, op := range []api.Op{0, api.HALT, api.ADD, api.PLEN, 255} {
			for _, imm := range []uint32{0, 1<<32 - 1} {
				for i, c := range []struct{ got, want api.Code }{
					{in(op, x, 0, 0, imm), in(op, low, 0, 0, imm)},
					{in(op, 0, x, 0, imm), in(op, 0, low, 0, imm)},
					{in(op, 0, 0, x, imm), in(op, 0, 0, low, imm)},
					{in(op, x, ^x, x, imm), in(op, low, 15-low, low, imm)},
				} {
					if Word(c.got) != Word(c.want) {
						t.Errorf("%d: Word(%v) = %x", i, c.got, Word(c.got))
					}
				}
			}
		}
	}
}

// wantDecoded holds Decode of a word against its digits.
func wantDecoded(t *testing.T, w uint64) {
	t.Helper()
	c, ok := Decode(w)
	want, is := instructionOf(w)
	if c != want || ok != is {
		t.Errorf("Decode(%016x) = %v, %v, want %v, %v", w, c, ok, want, is)
	}
}

// P10.1: every Op, alone and with each of the twelve bits set; the edges of what is an instruction.
func TestDecode(t *testing.T) {
	for op := range uint64(256) {
		for _, rest := range []uint64{0, 1<<32 - 1, 0xfff << 44, 0xfff<<44 | 1<<32 - 1, 0x123<<44 | 77} {
			w := op<<56 | rest
			wantDecoded(t, w)
			if _, ok := Decode(w); ok != (op >= 1 && op <= 25) {
				t.Errorf("Decode(%016x): %v", w, ok)
			}
			for bit := 32; bit < 44; bit++ {
				wantDecoded(t, w|1<<bit)
				if c, ok := Decode(w | 1<<bit); ok || c != (api.Code{}) {
					t.Errorf("Decode(%016x) = %v, %v", w|1<<bit, c, ok)
				}
			}
			wantDecoded(t, w|0xfff<<32)
		}
	}
	for registers := range uint64(4096) {
		wantDecoded(t, 5<<56|registers<<44|9)
	}
	for _, w := range []uint64{0, 1, most, 1 << 56, 1<<56 - 1, 26 << 56, 25<<56 | 1<<56 - 1, 1 << 63, 1<<63 - 1} {
		wantDecoded(t, w)
	}
}

// P10.4: Decode of Word is the instruction, and Word of Decode the word.
func TestThereAndBack(t *testing.T) {
	for op := range 256 {
		for registers := range 4096 {
			c := in(api.Op(op), uint8(registers>>8), uint8(registers>>4&15), uint8(registers&15), uint32(registers*registers)<<8|uint32(op))
			got, ok := Decode(Word(c))
			if is := op >= 1 && op <= 25; ok != is || is && got != c || !is && got != (api.Code{}) {
				t.Fatalf("Decode(Word(%v)) = %v, %v", c, got, ok)
			}
			if ok && Word(got) != Word(c) {
				t.Fatalf("Word(%v) = %x", got, Word(got))
			}
		}
	}
}

// P10.1: memories of every size up to twice the limit, each Status.
func TestMay(t *testing.T) {
	words := make([]uint64, 8200)
	for n := range len(words) + 1 {
		for _, status := range []api.Status{api.Running, api.Halted, api.Trapped, 3, 255} {
			m := api.Machine{Mem: words[:n], Status: status, PC: most}
			if May(m) != mayBe(m) {
				t.Errorf("%d words, Status %d: %v", n, status, May(m))
			}
		}
	}
	if May(api.Machine{}) || !May(api.Machine{Mem: words[:1]}) || !May(api.Machine{Mem: words[:4096]}) || May(api.Machine{Mem: words[:8192]}) {
		t.Errorf("the edges of sizes")
	}
	for status := range 256 {
		if m := (api.Machine{Mem: words[:4], Status: api.Status(status)}); May(m) != (status <= 2) {
			t.Errorf("Status %d: %v", status, May(m))
		}
	}
}

// unlike are machines no two of which are the same, such as may not be among them.
func unlike() []api.Machine {
	first := api.Machine{PC: 1, Status: api.Halted, Mem: []uint64{4, 5, 6, 7}}
	all := []api.Machine{{}, first}
	for i := range first.Regs {
		m := copyOf(first)
		m.Regs[i] = 1 << (4 * i)
		all = append(all, m)
	}
	for i := range first.Mem {
		m := copyOf(first)
		m.Mem[i] ^= 1 << 63
		all = append(all, m)
	}
	for _, words := range [][]uint64{{0}, {0, 0}, {4, 5, 6}, {4, 5, 6, 7, 0}, {5, 4, 6, 7}, make([]uint64, 4096), make([]uint64, 8192)} {
		all = append(all, api.Machine{PC: 1, Status: api.Halted, Mem: words})
	}
	for _, m := range []api.Machine{{PC: 1}, {PC: most}, {Status: api.Halted}, {Status: api.Trapped}, {Status: 3}, {Status: 255}} {
		all = append(all, m, api.Machine{PC: m.PC, Status: m.Status, Mem: []uint64{9}})
	}
	return all
}

// P10.1: whether all of two machines is the same, whatever they are.
func TestSame(t *testing.T) {
	for i, m := range unlike() {
		for j, n := range unlike() {
			if Same(m, n) != (i == j) {
				t.Errorf("Same of %d and %d: %v", i, j, Same(m, n))
			}
		}
	}
	if !Same(api.Machine{Mem: []uint64{}}, api.Machine{}) || !Same(api.Machine{}, api.Machine{Mem: make([]uint64, 0, 9)}) {
		t.Errorf("no words and nil ones are not the same")
	}
}

// P10.3: every size from below 0 to beyond the limit, and ones far off.
func TestLoadOfSizes(t *testing.T) {
	sizes := []int{math.MinInt, math.MinInt + 1, -4096, 8192, 1 << 20, 1 << 32, 1<<32 + 4, 1 << 62, math.MaxInt - 1, math.MaxInt}
	for n := -20; n < 8200; n++ {
		sizes = append(sizes, n)
	}
	for _, n := range sizes {
		m, e := Load(n, nil)
		if n < 1 || n > 4096 || !mayBe(api.Machine{Mem: make([]uint64, n)}) {
			if e != api.ErrArg || !Same(m, api.Machine{}) {
				t.Errorf("Load(%d) = %v, %d", n, m, e)
			}
			continue
		}
		if e != api.OK || !Same(m, api.Machine{Mem: make([]uint64, n)}) {
			t.Errorf("Load(%d) = %v, %d", n, m, e)
		}
	}
}

// P10.3: code and data of each number of words, for each size; with none of them, nil or empty.
func TestLoadOfParts(t *testing.T) {
	for _, size := range []int{1, 2, 4, 8, 16} {
		for codes := range size + 3 {
			for datas := range size + 3 {
				code, data := make([]api.Code, codes), make([]uint64, datas)
				var want []uint64
				for i := range code {
					code[i] = in(api.Op(17*i+1), uint8(15-i%16), uint8(i+250), uint8(16*i+3), math.MaxUint32-uint32(i))
					want = append(want, Word(code[i]))
				}
				for i := range data {
					data[i] = most - uint64(i)
				}
				want = slices.Concat(want, data, make([]uint64, size))[:size]
				m, e := Load(size, code, data...)
				if codes+datas > size {
					if e != api.ErrLimit || !Same(m, api.Machine{}) {
						t.Errorf("Load(%d; %d, %d) = %v, %d", size, codes, datas, m, e)
					}
				} else if e != api.OK || !Same(m, api.Machine{Mem: want}) {
					t.Errorf("Load(%d; %d, %d) = %v, %d", size, codes, datas, m, e)
				}
			}
		}
		a, e := Load(size, nil)
		b, f := Load(size, []api.Code{}, []uint64{}...)
		if e != api.OK || f != api.OK || !Same(a, b) || !Same(a, api.Machine{Mem: make([]uint64, size)}) {
			t.Errorf("Load(%d) of nothing: %v, %d; %v, %d", size, a, e, b, f)
		}
	}
}

// P10.3: the greatest memory filled just, by code, by data and by both, and one word more; which error comes first.
func TestLoadAtTheLimit(t *testing.T) {
	for _, c := range []struct {
		size, codes, datas int
		e                  api.Errno
	}{
		{4096, 4096, 0, api.OK}, {4096, 0, 4096, api.OK}, {4096, 2048, 2048, api.OK}, {4096, 1, 4095, api.OK}, {4096, 4095, 1, api.OK},
		{4096, 4097, 0, api.ErrLimit}, {4096, 0, 4097, api.ErrLimit}, {4096, 2048, 2049, api.ErrLimit}, {4096, 2049, 2048, api.ErrLimit}, {4096, 4096, 1, api.ErrLimit}, {4096, 1, 4096, api.ErrLimit}, {4096, 5000, 5000, api.ErrLimit},
		{1, 1, 0, api.OK}, {1, 0, 1, api.OK}, {1, 1, 1, api.ErrLimit}, {1, 2, 0, api.ErrLimit}, {1, 0, 2, api.ErrLimit},
		{2, 0, 3, api.ErrLimit}, {3, 0, 4, api.ErrArg}, {0, 1, 0, api.ErrArg}, {-1, 1, 1, api.ErrArg}, {8192, 0, 8193, api.ErrArg}, {8192, 8193, 0, api.ErrArg}, {math.MinInt, 1, 1, api.ErrArg}, {math.MaxInt, 1, 1, api.ErrArg}, {4097, 4097, 0, api.ErrArg},
	} {
		code, data := slices.Repeat([]api.Code{in(api.ADD, 1, 2, 3, 0)}, c.codes), slices.Repeat([]uint64{8}, c.datas)
		m, e := Load(c.size, code, data...)
		var want api.Machine
		if c.e == api.OK {
			want.Mem = slices.Concat(slices.Repeat([]uint64{5<<56 | 0x123<<44}, c.codes), data, make([]uint64, c.size))[:c.size]
		}
		if e != c.e || !Same(m, want) {
			t.Errorf("Load(%d; %d, %d): %d, want %d", c.size, c.codes, c.datas, e, c.e)
		}
	}
}
