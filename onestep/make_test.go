package onestep

import (
	"bytes"
	"crypto/sha256"
	"encoding/binary"
	"math/rand"
	"slices"
	"testing"

	"proctor/api"
	"proctor/vm"
)

func in(op api.Op, a, b, c uint8, imm uint32) api.Code {
	return api.Code{Op: op, A: a, B: b, C: c, Imm: imm}
}

// allOps are all instructions.
func allOps() []api.Op {
	var l []api.Op
	for op := api.HALT; op <= api.PLEN; op++ {
		l = append(l, op)
	}
	return l
}

// filled is a memory of so many words, no two of them alike, none of them an instruction.
func filled(size int) []uint64 {
	words := make([]uint64, size)
	for i := range words {
		words[i] = 0xf0<<56 | uint64(i)*0x0102030405 + 7
	}
	return words
}

// placed is a machine of so many words that is at an instruction, at an address.
func placed(size int, pc uint64, c api.Code, regs [16]uint64) api.Machine {
	m := api.Machine{PC: pc, Regs: regs, Mem: filled(size)}
	m.Mem[pc] = vm.Word(c)
	return m
}

func hashed(b []byte) api.Hashed { return api.Hashed{Bytes: b, Sum: sha256.Sum256(b)} }

// putSum writes a sum's words to an address, as far as there is room.
func putSum(words []uint64, at int, h api.Hash) {
	for i := range 4 {
		if at+i < len(words) {
			words[at+i] = binary.BigEndian.Uint64(h[8*i:])
		}
	}
}

// addresses are those that a proof touches.
func addresses(p api.StepProof) []uint64 {
	var l []uint64
	for _, x := range p.Touched {
		l = append(l, x.Addr)
	}
	return l
}

// wantTouched asks that a machine's step is proved by just these words.
func wantTouched(t *testing.T, m api.Machine, known []api.Hashed, want ...uint64) api.StepProof {
	t.Helper()
	p := wantMade(t, m, known)
	if !slices.Equal(addresses(p), want) {
		t.Fatalf("touched %d, want %d", addresses(p), want)
	}
	return p
}

// wantError asks for an error, and nothing beside it.
func wantError(t *testing.T, m api.Machine, known []api.Hashed, want api.Errno) {
	t.Helper()
	if p, e := Make(m, known); e != want || !same(p, api.StepProof{}) {
		t.Fatalf("Make = %s, %d, want %d", shown(p), e, want)
	}
}

// The chapter's examples.
func TestExamples(t *testing.T) {
	m, _ := vm.Load(4, []api.Code{in(api.LI, 1, 0, 0, 7), in(api.HALT, 0, 0, 0, 0)})
	p := wantTouched(t, m, nil, 0)
	before := commitBy(0, [16]uint64{}, api.Running, 2, rootBy(m.Mem))
	after := commitBy(1, [16]uint64{1: 7}, api.Running, 2, rootBy(m.Mem))
	if h, ok := Check(before, p); h != after || !ok {
		t.Errorf("Check = %x, %v", h, ok)
	}
	lie := twin(p)
	lie.Touched[0].Value++
	wantLie(t, before, lie)
	lie = twin(p)
	lie.Touched = append(lie.Touched, lie.Touched[0])
	wantLie(t, before, lie)
	m.Status = api.Halted
	wantTouched(t, m, nil)
	wantError(t, api.Machine{Mem: make([]uint64, 3)}, nil, api.ErrArg)
}

// P12.1: machines that may not be, whatever they are at.
func TestMakeOfNoMachine(t *testing.T) {
	for _, size := range []int{0, 3, 5, 6, 7, 12, 100, 4095, 4097, 6144, 8192, 1 << 16} {
		for _, status := range []api.Status{api.Running, api.Halted, api.Trapped, 3, 255} {
			wantError(t, api.Machine{Status: status, Mem: make([]uint64, size)}, nil, api.ErrArg)
			wantMade(t, api.Machine{Status: status, Mem: filled(size), PC: 9, Regs: [16]uint64{most, most}}, []api.Hashed{hashed(nil)})
		}
	}
	wantError(t, api.Machine{}, nil, api.ErrArg)
	for _, size := range sizes() {
		for _, status := range []api.Status{3, 4, 127, 128, 254, 255} {
			m := placed(size, 0, in(api.PRE, 1, 0, 0, 0), [16]uint64{})
			m.Status = status
			wantError(t, m, nil, api.ErrArg)
		}
	}
}

// P12.1: a machine that halted or trapped touches nothing, whatever stands at its PC.
func TestMakeOfStoppedMachines(t *testing.T) {
	for _, size := range sizes() {
		for _, status := range []api.Status{api.Halted, api.Trapped} {
			ops := []api.Op{api.ST, api.HALT, api.LI, api.HASH, api.PRE, api.NoOp}
			if size > 64 {
				ops = ops[:1]
			}
			for _, op := range ops {
				m := placed(size, 0, in(op, 1, 2, 3, 0), [16]uint64{2: 1})
				for _, pc := range []uint64{0, uint64(size) - 1, uint64(size), most} {
					m.PC, m.Status = pc, status
					if p := wantTouched(t, m, nil); p.Status != status || p.PC != pc {
						t.Fatalf("%s", shown(p))
					}
				}
			}
		}
	}
}

// P12.1: PC at the first address, at the last one, one behind it, and far off; what is there being an instruction or not.
func TestMakeAtEveryEnd(t *testing.T) {
	for _, size := range sizes() {
		n := uint64(size)
		words := []uint64{2<<56 | 3<<52 | 9, 0, 1 << 56, 26 << 56, most, 2<<56 | 1<<32, 2<<56 | 1<<43, 255 << 56}
		if size > 64 {
			words = words[:2]
		}
		for _, word := range words {
			for _, pc := range []uint64{0, n - 1, n / 2} {
				m := api.Machine{PC: pc, Mem: filled(size)}
				m.Mem[pc] = word
				wantTouched(t, m, nil, pc)
			}
			for _, pc := range []uint64{n, n + 1, 2 * n, 4096, 1 << 32, 1<<32 | (n - 1), 1 << 63, 1<<63 | (n - 1), -n, most} {
				m := api.Machine{PC: pc, Mem: slices.Repeat([]uint64{word}, size)}
				wantTouched(t, m, nil)
			}
		}
	}
}

// P12.1: each word that may be at PC, an instruction or not, by its first byte, and by the bits between C and Imm.
func TestMakeOfEveryOp(t *testing.T) {
	for op := range 256 {
		for bit := 31; bit < 44; bit++ {
			m := api.Machine{PC: 3, Mem: filled(8)}
			m.Mem[3] = uint64(op)<<56 | 1<<bit
			if bit == 31 {
				m.Mem[3] = uint64(op) << 56
			}
			if c, ok := instructionOf(m.Mem[3]); ok && (c.Op == api.PRE || c.Op == api.PLEN) {
				wantError(t, m, nil, api.ErrShort)
				continue
			}
			want := []uint64{3}
			if bit == 31 {
				want = append(want, map[api.Op][]uint64{api.LD: {0}, api.ST: {0}, api.HASH: {0, 1, 2, 3}}[api.Op(op)]...)
			}
			wantTouched(t, m, nil, want...)
		}
	}
}

// someWords are words at which instructions differ.
func someWords() []uint64 {
	return []uint64{0, 1, 2, 5, 63, 64, 65, 1 << 31, 1 << 32, 1<<63 - 1, 1 << 63, most - 1, most}
}

// P12.1, P12.4: instructions that touch no word but their own, with words at the edges, the same register in two or three places.
func TestInstructionsOfRegisters(t *testing.T) {
	for _, op := range allOps() {
		if op == api.LD || op == api.ST || op == api.HASH || op == api.PRE || op == api.PLEN {
			continue
		}
		for _, x := range someWords() {
			for _, y := range someWords() {
				wantTouched(t, placed(4, 1, in(op, 3, 4, 15, 0xfffffffe), [16]uint64{3: x ^ y, 4: x, 15: y}), nil, 1)
			}
			for _, c := range []api.Code{in(op, 4, 4, 15, 1), in(op, 15, 4, 15, 2), in(op, 4, 4, 4, 0), in(op, 0, 15, 0, 1<<32-1)} {
				wantTouched(t, placed(4, 3, c, [16]uint64{0: 7, 4: x, 15: x / 3}), nil, 3)
			}
		}
	}
}

// reach are addresses of a memory of so many words, and some that it has not.
func reach(size int) []uint64 {
	n := uint64(size)
	l := []uint64{n, n + 1, 2 * n, 4096, 1 << 31, 1 << 32, 1<<32 | (n - 1), 1 << 63, 1<<63 | (n - 1), most - 4, most - 3, most - 2, most - 1, most}
	for at := range n {
		l = append(l, at)
	}
	return l
}

// P12.1: LD and ST at every address of small memories, their own one too, and at others; addresses that wrap.
func TestLoadsAndStores(t *testing.T) {
	for _, size := range []int{1, 2, 4, 16} {
		for _, pc := range []uint64{0, uint64(size) - 1} {
			for _, at := range reach(size) {
				for _, imm := range []uint32{0, 1, 3, uint32(size), 1<<31 - 1, 1<<32 - 1} {
					for _, op := range []api.Op{api.LD, api.ST} {
						for _, a := range []uint8{5, 2} {
							m := placed(size, pc, in(op, a, 2, 0, imm), [16]uint64{2: at - uint64(imm), 5: 0xabcdef})
							want := []uint64{pc}
							if at < uint64(size) {
								want = append(want, at)
							}
							wantTouched(t, m, nil, want...)
						}
					}
				}
			}
		}
	}
}

// P12.1: of what ST writes over, the value ahead is told, and the path beside it is the one ahead too.
func TestStoreTellsWhatWasThere(t *testing.T) {
	m := placed(8, 0, in(api.ST, 1, 2, 0, 3), [16]uint64{1: 99, 2: 2})
	p := wantTouched(t, m, nil, 0, 5)
	if p.Touched[1].Value != filled(8)[5] || !slices.Equal(p.Touched[1].Path, pathBy(m.Mem, 5)) {
		t.Errorf("%s", shown(p))
	}
	m = placed(8, 6, in(api.ST, 1, 2, 0, 6), [16]uint64{1: 99})
	p = wantTouched(t, m, nil, 6, 6)
	if p.Touched[0].Value != m.Mem[6] || p.Touched[1].Value != m.Mem[6] {
		t.Errorf("%s", shown(p))
	}
}

// P12.1: HASH from and to every address of a memory, those of its own word too, what is read being what is written or a part of it; and with others.
func TestHashAtEveryAddress(t *testing.T) {
	for _, size := range []int{1, 2, 4, 8} {
		for _, to := range reach(size) {
			for _, from := range reach(size) {
				for _, count := range []uint64{0, 1, 8, 9, 32, 33, 64} {
					wantMade(t, placed(size, uint64(size)/2, in(api.HASH, 1, 2, 3, 0), [16]uint64{1: to, 2: from, 3: count}), nil)
				}
			}
		}
	}
}

// P12.1: what HASH touches, in its order, written out.
func TestHashTouches(t *testing.T) {
	for _, c := range []struct {
		to, from, count uint64
		imm             uint32
		want            []uint64
	}{
		{8, 4, 11, 0, []uint64{2, 4, 5, 8, 9, 10, 11}}, {4, 4, 16, 256, []uint64{2, 4, 5, 4, 5, 6, 7}}, {5, 4, 16, 511, []uint64{2, 4, 5, 5, 6, 7, 8}},
		{3, 4, 24, 256, []uint64{2, 4, 5, 6, 3, 4, 5, 6}}, {0, 1, 17, 0, []uint64{2, 1, 2, 3, 0, 1, 2, 3}}, {12, 9, 1, 0, []uint64{2, 9, 12, 13, 14, 15}},
		{12, 0, 128, 0, []uint64{2, 0, 1, 2, 3, 4, 5, 6, 7, 8, 9, 10, 11, 12, 13, 14, 15, 12, 13, 14, 15}}, {0, most, 0, 0, []uint64{2, 0, 1, 2, 3}}, {0, 16, 0, 300, []uint64{2, 0, 1, 2, 3}},
		{13, 0, 8, 0, []uint64{2}}, {most, 0, 8, 0, []uint64{2}}, {0, 1, 128, 0, []uint64{2}}, {0, 0, 129, 0, []uint64{2}}, {0, 0, most, 0, []uint64{2}}, {0, 16, 1, 0, []uint64{2}}, {0, most, 9, 0, []uint64{2}},
		{13, 0, 0, 0, []uint64{2}}, {0, 0, 8, 255, []uint64{2}}, {0, 0, 8, 1, []uint64{2}}, {0, 0, 8, 512, []uint64{2}}, {0, 0, 0, 1<<32 - 1, []uint64{2}},
	} {
		wantTouched(t, placed(16, 2, in(api.HASH, 1, 2, 3, c.imm), [16]uint64{1: c.to, 2: c.from, 3: c.count}), nil, c.want...)
	}
}

// P12.1: HASH of every number of bytes up to one too many, and of each Imm about the edges.
func TestHashOfEverySize(t *testing.T) {
	for count := range uint64(131) {
		for _, imm := range []uint32{0, 255, 256, 511, 512} {
			p := wantMade(t, placed(32, 31, in(api.HASH, 1, 2, 3, imm), [16]uint64{1: 20, 2: 3, 3: count}), nil)
			want := 1
			if count <= 128 && imm != 255 && imm != 512 {
				want = 5 + int(count+7)/8
			}
			if len(p.Touched) != want {
				t.Fatalf("HASH of %d bytes, Imm %d touches %d words, want %d", count, imm, len(p.Touched), want)
			}
		}
	}
	for imm := range uint32(600) {
		p := wantMade(t, placed(8, 0, in(api.HASH, 1, 2, 3, imm), [16]uint64{1: 1, 3: 8}), nil)
		if may := imm == 0 || imm >= 256 && imm <= 511; (len(p.Touched) == 6) != may {
			t.Fatalf("HASH with Imm %d touches %d", imm, addresses(p))
		}
	}
	for _, count := range []uint64{129, 136, 256, 1 << 32, 1<<32 + 8, 1 << 63, most - 7, most} {
		wantTouched(t, placed(4096, 0, in(api.HASH, 1, 2, 3, 256), [16]uint64{3: count}), nil, 0)
	}
}

// P12.1: each path is the one of the tree as it stands when the word is touched: of what HASH writes, behind the writes ahead of it.
func TestHashPaths(t *testing.T) {
	m := placed(16, 6, in(api.HASH, 1, 2, 3, 0), [16]uint64{1: 5, 2: 4, 3: 20})
	p := wantTouched(t, m, nil, 6, 4, 5, 6, 5, 6, 7, 8)
	words := slices.Clone(m.Mem)
	sum := sha256.Sum256(bytesBy(words[4:7])[:20])
	for i, x := range p.Touched {
		if x.Value != words[x.Addr] || !slices.Equal(x.Path, pathBy(words, x.Addr)) {
			t.Fatalf("the entry %d: %s", i, shown(p))
		}
		if i >= 4 {
			words[x.Addr] = binary.BigEndian.Uint64(sum[8*(i-4):])
		}
	}
	if p.Touched[1].Path[0] == p.Touched[5].Path[0] || p.Root != rootBy(m.Mem) {
		t.Errorf("the tree stands still")
	}
}

// library is what is known: bytes of many lengths; an entry whose sum is another's, ahead of the right one; and one behind it.
func library() []api.Hashed {
	var l []api.Hashed
	for _, n := range []int{0, 1, 7, 8, 9, 31, 32, 33, 55, 56, 64, 65, 1000} {
		l = append(l, hashed(bytes.Repeat([]byte{byte(n), 0xfe, 3}, n)[:n]))
	}
	barred, kept := hashed([]byte("barred")), hashed([]byte("kept"))
	return append(l, api.Hashed{Bytes: []byte("liar"), Sum: barred.Sum}, barred, kept, api.Hashed{Bytes: []byte("liar"), Sum: kept.Sum}, api.Hashed{})
}

// asker is a machine of 16 words at a PRE or PLEN of a sum that stands from the address 8 on.
func asker(op api.Op, sum api.Hash, place uint64) api.Machine {
	m := placed(16, 5, in(op, 2, 3, 4, 0), [16]uint64{2: 77, 3: 8, 4: place})
	putSum(m.Mem, 8, sum)
	return m
}

// P12.1: PRE and PLEN of what is known, of every length, from places about its end; Pre is that preimage.
func TestPreimages(t *testing.T) {
	for i, x := range library()[:13] {
		n := uint64(len(x.Bytes))
		for _, place := range []uint64{0, 1, n - 9, n - 8, n - 7, n - 1, n, n + 1, 1 << 32, 1 << 63, most - 7, most} {
			for _, op := range []api.Op{api.PRE, api.PLEN} {
				p := wantTouched(t, asker(op, x.Sum, place), library(), 5, 8, 9, 10, 11)
				if !bytes.Equal(p.Pre, x.Bytes) {
					t.Fatalf("%d: Pre = %x", i, p.Pre)
				}
			}
		}
	}
	for _, op := range []api.Op{api.PRE, api.PLEN} {
		if p := wantTouched(t, asker(op, hashed([]byte("kept")).Sum, 0), library(), 5, 8, 9, 10, 11); string(p.Pre) != "kept" {
			t.Errorf("Pre = %q", p.Pre)
		}
	}
}

// P12.1: PRE and PLEN without a preimage: nothing is known, something else is, or an entry that is no preimage says to be it ahead of the one that is.
func TestNoPreimage(t *testing.T) {
	x := hashed([]byte("unknown"))
	turned := x
	turned.Sum[31] ^= 1
	for _, op := range []api.Op{api.PRE, api.PLEN} {
		m := asker(op, x.Sum, 0)
		for _, known := range [][]api.Hashed{nil, {}, library(), {turned}, {{Bytes: x.Bytes}}, {{Sum: x.Sum}}, {{Bytes: []byte("unknow"), Sum: x.Sum}, x}, {{Bytes: x.Sum[:], Sum: x.Sum}}} {
			wantError(t, m, known, api.ErrShort)
		}
		for _, known := range [][]api.Hashed{{x}, {turned, x}, {x, {Sum: x.Sum}}, append(library(), x)} {
			wantTouched(t, m, known, 5, 8, 9, 10, 11)
		}
		wantError(t, asker(op, hashed([]byte("barred")).Sum, 0), library(), api.ErrShort)
		wantError(t, asker(op, api.Hash{}, 0), library(), api.ErrShort)
		m.Status = api.Halted
		wantTouched(t, m, nil)
	}
}

// P12.1: PRE and PLEN of sums at every address, some of whose words the memory has not: a trap ahead of asking, of which no preimage is told.
func TestPreimagesAtEveryAddress(t *testing.T) {
	known := library()
	for _, size := range []int{1, 2, 4, 8, 16} {
		for _, at := range reach(size) {
			for _, op := range []api.Op{api.PRE, api.PLEN} {
				m := placed(size, uint64(size)-1, in(op, 3, 3, 3, 9), [16]uint64{3: at})
				if at < uint64(size) {
					putSum(m.Mem[:size-1], int(at), known[5].Sum)
				}
				p := wantMade(t, m, known)
				if len(p.Pre) != 0 && len(p.Touched) != 5 {
					t.Fatalf("%s", shown(p))
				}
				if at > uint64(size)-4 || size < 4 {
					wantTouched(t, m, nil, m.PC)
				}
			}
		}
	}
}

// P12.1: a sum of which the word at PC is a part.
func TestSumOverItsOwnInstruction(t *testing.T) {
	for _, op := range []api.Op{api.PRE, api.PLEN} {
		m := placed(8, 2, in(op, 3, 0, 0, 0), [16]uint64{})
		wantError(t, m, library(), api.ErrShort)
	}
}

// P12.1: of a memory of each size, instructions of each kind, at its first and its last word.
func TestEverySize(t *testing.T) {
	x := hashed([]byte("some bytes that are known"))
	for depth, size := range sizes() {
		n := uint64(size)
		for _, pc := range []uint64{0, n - 1} {
			for _, c := range []api.Code{in(api.LI, 1, 0, 0, 3), in(api.LD, 1, 2, 0, 0), in(api.ST, 1, 2, 0, 0), in(api.HASH, 2, 4, 5, 257), in(api.PRE, 1, 2, 0, 0), in(api.PLEN, 1, 2, 0, 0)} {
				m := placed(size, pc, c, [16]uint64{1: 6, 2: n / 2, 4: n / 4, 5: min(128, n)})
				if n >= 16 {
					putSum(m.Mem, int(n/2), x.Sum)
				}
				p, e := proofBy(m, []api.Hashed{x})
				if q := wantMade(t, m, []api.Hashed{x}); e == api.OK && (q.Depth != depth || len(q.Touched) != len(p.Touched)) {
					t.Fatalf("%s", shown(q))
				}
			}
		}
	}
}

// P12.1: the longest proof that there is: HASH of MaxSum bytes in a memory of MaxWords words.
func TestLongestProof(t *testing.T) {
	m := placed(4096, 4095, in(api.HASH, 1, 2, 3, 256), [16]uint64{1: 2046, 2: 2040, 3: 128, 7: most})
	p := wantMade(t, m, nil)
	b, e := Write(p)
	if len(p.Touched) != 21 || len(p.Touched[20].Path) != 12 || e != api.OK || len(b) > api.MaxBytes {
		t.Errorf("%s: %d bytes, %d", shown(p), len(b), e)
	}
}

// P12.1: a preimage that is longer than layer 2 allows is proved all the same.
func TestLongPreimage(t *testing.T) {
	for _, n := range []int{65535, 65536, 65537, 1 << 20} {
		x := hashed(bytes.Repeat([]byte{9}, n))
		p := wantTouched(t, asker(api.PLEN, x.Sum, 0), []api.Hashed{x}, 5, 8, 9, 10, 11)
		if b, e := Write(p); e != api.ErrArg || len(b) != 0 {
			t.Errorf("Write: %d", e)
		}
	}
}

// P12.1, P12.4: machines at random.
func TestRandomMachines(t *testing.T) {
	r := rand.New(rand.NewSource(12))
	known := library()
	done := map[api.Op]int{}
	for range 6000 {
		m := randomMachine(r, known)
		p := wantMade(t, m, known)
		if len(p.Touched) > 1 {
			c, _ := instructionOf(p.Touched[0].Value)
			done[c.Op]++
		}
	}
	for _, op := range []api.Op{api.LD, api.ST, api.HASH, api.PRE, api.PLEN} {
		if done[op] < 40 {
			t.Errorf("the instruction %d touched words %d times alone", op, done[op])
		}
	}
}

// randomMachine is a machine that is mostly at an instruction that touches words.
func randomMachine(r *rand.Rand, known []api.Hashed) api.Machine {
	size := 1 << r.Intn(7)
	m := api.Machine{PC: uint64(r.Intn(size)), Mem: filled(size)}
	for i := range m.Regs {
		m.Regs[i] = uint64(r.Intn(size))
		if r.Intn(6) == 0 {
			m.Regs[i] = []uint64{uint64(r.Intn(140)), uint64(size) - uint64(r.Intn(5)), r.Uint64() >> r.Intn(64), most - uint64(r.Intn(4))}[r.Intn(4)]
		}
	}
	for range 1 + size/8 {
		at := r.Intn(size)
		putSum(m.Mem, at, known[r.Intn(len(known))].Sum)
		m.Regs[r.Intn(8)] = uint64(at)
	}
	op := allOps()[r.Intn(25)]
	if r.Intn(2) == 0 {
		op = []api.Op{api.LD, api.ST, api.HASH, api.PRE, api.PLEN}[r.Intn(5)]
	}
	c := in(op, uint8(r.Intn(16)), uint8(r.Intn(8)), uint8(r.Intn(16)), []uint32{0, 0, 1, 256, 511, 512, uint32(r.Intn(size)), r.Uint32()}[r.Intn(8)])
	m.Mem[m.PC] = vm.Word(c)
	switch r.Intn(30) {
	case 0:
		m.Status = api.Status(r.Intn(4))
	case 1:
		m.Mem[m.PC] = r.Uint64()
	case 2:
		m.PC = uint64(size) + uint64(r.Intn(3))
	}
	return m
}
