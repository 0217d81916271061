package onestep

import (
	"encoding/binary"
	"slices"
	"testing"

	"proctor/api"
	"proctor/mem"
	"proctor/vm"
)

// wantProvedRun proves a run step by step: each proof, read of its bytes, brings the commitment to that of the next machine.
func wantProvedRun(t *testing.T, m api.Machine, known []api.Hashed, most int) (end api.Machine, steps int) {
	t.Helper()
	at, _ := mem.Commit(m)
	for steps = 0; m.Status == api.Running && steps < most; steps++ {
		p, e := Make(m, known)
		b, f := Write(p)
		q, g := Read(b)
		if e != api.OK || f != api.OK || g != api.OK {
			t.Fatalf("the step %d: %d, %d, %d", steps, e, f, g)
		}
		after, ok := Check(at, q)
		m, _ = vm.Step(m, known)
		if want, _ := mem.Commit(m); !ok || after != want {
			t.Fatalf("the step %d: %x, %v, want %x", steps, after, ok, want)
		}
		at = after
	}
	return m, steps
}

// P12.4: runs that halt and that trap, which write, sum and ask for preimages on their way.
func TestRunsAreProved(t *testing.T) {
	x := hashed([]byte("a text of some bytes, which is known"))
	count := []api.Code{in(api.LI, 1, 0, 0, 9), in(api.LI, 2, 0, 0, 1), in(api.SUB, 1, 1, 2, 0), in(api.ST, 1, 1, 0, 16), in(api.JNZ, 1, 0, 0, 2), in(api.LI, 5, 0, 0, 28), in(api.PRE, 6, 5, 2, 0), in(api.PLEN, 7, 5, 0, 0), in(api.LI, 8, 0, 0, 16), in(api.HASH, 8, 8, 7, 300), in(api.LD, 9, 8, 0, 2)}
	for _, last := range []struct {
		c   api.Code
		end api.Status
	}{{in(api.HALT, 0, 0, 0, 0), api.Halted}, {in(api.DIV, 1, 1, 10, 0), api.Trapped}, {in(api.LD, 1, 1, 0, 32), api.Trapped}, {in(api.JMP, 0, 0, 0, 32), api.Trapped}, {api.Code{}, api.Trapped}} {
		m, e := vm.Load(32, append(slices.Clone(count), last.c))
		if e != api.OK {
			t.Fatal(e)
		}
		putSum(m.Mem, 28, x.Sum)
		end, steps := wantProvedRun(t, m, []api.Hashed{x}, 99)
		want, n, _ := vm.Run(m, []api.Hashed{x}, 99)
		if end.Status != last.end || !vm.Same(end, want) || steps != n {
			t.Errorf("Status %d behind %d steps, want %d behind %d", end.Status, steps, last.end, n)
		}
	}
}

// P12.4: a machine that writes over its own instructions, and one that goes on and on.
func TestRunsThatWriteInstructions(t *testing.T) {
	m, _ := vm.Load(8, []api.Code{in(api.LD, 1, 0, 0, 7), in(api.ST, 1, 0, 0, 0), in(api.HASH, 0, 0, 2, 0), in(api.JMP, 0, 0, 0, 0)})
	m.Mem[7], m.Regs[2] = vm.Word(in(api.LI, 2, 0, 0, 30)), 64
	if end, _ := wantProvedRun(t, m, nil, 30); end.Status != api.Trapped {
		t.Errorf("Status %d, PC %d", end.Status, end.PC)
	}
	m, _ = vm.Load(1, []api.Code{in(api.JMP, 0, 0, 0, 0)})
	if end, steps := wantProvedRun(t, m, nil, 50); end.Status != api.Running || steps != 50 {
		t.Errorf("Status %d behind %d steps", end.Status, steps)
	}
}

// P12.4: of a machine that stopped, the proof tells the commitment that it has.
func TestStoppedMachinesStay(t *testing.T) {
	for _, size := range sizes() {
		for _, s := range []api.Status{api.Halted, api.Trapped} {
			m := api.Machine{PC: most, Status: s, Mem: filled(size)}
			p, _ := Make(m, nil)
			before, _ := mem.Commit(m)
			if h, ok := Check(before, p); h != before || !ok {
				t.Errorf("%d words: Check = %x, %v", size, h, ok)
			}
		}
	}
}

// words are the words of some bytes.
func wordsOf(plain []byte, count int) []uint64 {
	words := make([]uint64, count)
	for i := range words {
		if len(plain) >= 8*i+8 {
			words[i] = binary.BigEndian.Uint64(plain[8*i:])
		}
	}
	return words
}

// P12.1, P12.4: whatever the machine, whatever is known.
func FuzzMake(f *testing.F) {
	x := hashed([]byte("abc"))
	f.Add(uint8(0), uint8(0), uint64(0), []byte{}, []byte{}, []byte{})
	f.Add(uint8(3), uint8(0), uint64(0), bytesBy([]uint64{0, 7}), bytesBy([]uint64{vm.Word(in(api.ST, 1, 1, 0, 1))}), []byte{})
	f.Add(uint8(4), uint8(0), uint64(0), bytesBy([]uint64{0, 1, 8, 16}), append(bytesBy([]uint64{vm.Word(in(api.PRE, 5, 1, 2, 0))}), x.Sum[:]...), []byte("abc"))
	f.Add(uint8(5), uint8(0), uint64(1), bytesBy([]uint64{0, 1, 8, 16}), bytesBy([]uint64{0, vm.Word(in(api.HASH, 1, 2, 3, 256))}), []byte{})
	f.Add(uint8(13), uint8(1), uint64(1<<63), bytesBy([]uint64{most}), bytesBy([]uint64{1 << 56}), []byte("x"))
	f.Fuzz(func(t *testing.T, depth, status uint8, pc uint64, regs, words, known []byte) {
		m := api.Machine{PC: pc, Regs: [16]uint64(wordsOf(regs, 16)), Status: api.Status(status % 4), Mem: wordsOf(words, 1<<(depth%14))}
		if depth >= 200 {
			m.Mem = m.Mem[:len(m.Mem)*2/3]
		}
		all := []api.Hashed{hashed(known), {Bytes: known}, hashed(known[:len(known)/2])}
		p := wantMade(t, m, all)
		m.PC %= uint64(max(1, len(m.Mem)))
		m.Status = api.Running
		p = wantMade(t, m, all)
		if len(p.Touched) > 0 {
			lie := twin(p)
			lie.Touched[len(p.Touched)-1].Value ^= 1 << (depth % 64)
			wantLie(t, ownOf(p), lie)
		}
	})
}

// P12.2, P12.3: whatever the bytes; what is read of them is held against the judge, as it is and with a root at which its first entry checks.
func FuzzRead(f *testing.F) {
	for _, p := range []api.StepProof{{}, sample()} {
		b, _ := Write(p)
		f.Add(b)
	}
	for _, s := range subjects() {
		if len(s.m.Mem) <= 16 {
			p, _ := Make(s.m, s.known)
			b, _ := Write(p)
			f.Add(b)
		}
	}
	f.Fuzz(func(t *testing.T, b []byte) {
		p, e := wantRead(t, b)
		if e != api.OK {
			return
		}
		wantJudged(t, ownOf(p), p)
		wantJudged(t, api.Hash{}, p)
		if len(p.Touched) > 0 {
			p.Root = foldBy(p.Touched[0].Addr, p.Touched[0].Value, p.Touched[0].Path)
			wantJudged(t, ownOf(p), p)
		}
	})
}
