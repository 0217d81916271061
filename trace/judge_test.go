package trace

import (
	"bytes"
	"crypto/sha256"
	"encoding/binary"
	"math/bits"
	"math/rand"
	"reflect"
	"slices"
	"testing"

	"proctor/api"
	"proctor/mem"
	"proctor/onestep"
	"proctor/vm"
)

// The second judge: a run is gone step by step from its beginning, without marks, and a commitment is summed of its 171 bytes by the library's SHA-256, over a tree that is cut in halves from the root down.

func rootBy(words []uint64) api.Hash {
	if len(words) == 1 {
		return sha256.Sum256(binary.BigEndian.AppendUint64([]byte{0}, words[0]))
	}
	half := len(words) / 2
	left, right := rootBy(words[:half]), rootBy(words[half:])
	return sha256.Sum256(slices.Concat([]byte{1}, left[:], right[:]))
}

func commitBy(m api.Machine) api.Hash {
	var b bytes.Buffer
	b.WriteByte(2)
	binary.Write(&b, binary.BigEndian, m.PC)
	binary.Write(&b, binary.BigEndian, m.Regs)
	b.WriteByte(byte(m.Status))
	b.WriteByte(byte(bits.Len(uint(len(m.Mem))) - 1))
	root := rootBy(m.Mem)
	b.Write(root[:])
	return sha256.Sum256(b.Bytes())
}

// course is the machines behind 0, 1, 2, .. most steps, and behind how many of these it is not Running.
func course(m api.Machine, known []api.Hashed, most int) (all []api.Machine, length int) {
	for k := 0; ; k++ {
		all = append(all, m)
		if k == most {
			return all, length
		}
		if m.Status == api.Running {
			length++
		}
		m, _ = vm.Step(m, known)
	}
}

// firstBy is the first place at which two runs differ, as far as both go.
func firstBy(a, b []api.Machine) (int, bool) {
	for k := range min(len(a), len(b)) {
		if commitBy(a[k]) != commitBy(b[k]) {
			return k, true
		}
	}
	return 0, false
}

// wantAt holds what a trace tells of k against the machine that is there.
func wantAt(t *testing.T, x *Trace, k int, m api.Machine, known []api.Hashed) {
	t.Helper()
	h, e := x.At(k)
	n, f := x.Machine(k)
	p, g := x.Prove(k)
	if h != commitBy(m) || e != api.OK {
		t.Fatalf("At(%d) = %x, %d", k, h, e)
	}
	if own, _ := mem.Commit(m); h != own {
		t.Fatalf("At(%d) is not what mem.Commit tells", k)
	}
	if !vm.Same(n, m) || f != api.OK {
		t.Fatalf("Machine(%d): PC %d, Status %d, error %d", k, n.PC, n.Status, f)
	}
	if q, want := onestep.Make(m, known); !reflect.DeepEqual(p, q) || g != want {
		t.Fatalf("Prove(%d): error %d, want %d", k, g, want)
	}
}

// wantErrors asks that nothing is told of k but an error.
func wantErrors(t *testing.T, x *Trace, k int, want api.Errno) {
	t.Helper()
	if h, e := x.At(k); h != (api.Hash{}) || e != want {
		t.Errorf("At(%d) = %x, %d", k, h, e)
	}
	if m, e := x.Machine(k); !reflect.DeepEqual(m, api.Machine{}) || e != want {
		t.Errorf("Machine(%d): %d", k, e)
	}
	if p, e := x.Prove(k); !reflect.DeepEqual(p, api.StepProof{}) || e != want {
		t.Errorf("Prove(%d): %d", k, e)
	}
}

// made is a trace that there must be.
func made(t *testing.T, m api.Machine, known []api.Hashed, most int) *Trace {
	t.Helper()
	x, e := New(m, known, most)
	if x == nil || e != api.OK {
		t.Fatalf("New: %d", e)
	}
	return x
}

// wantTrace holds a trace against the run, at each of some k, in their order.
func wantTrace(t *testing.T, m api.Machine, known []api.Hashed, most int, ks ...int) *Trace {
	t.Helper()
	x := made(t, m, known, most)
	all, length := course(m, known, most)
	if x.Length() != length {
		t.Fatalf("Length = %d, want %d", x.Length(), length)
	}
	for _, k := range ks {
		wantAt(t, x, k, all[k], known)
	}
	return x
}

// upTo is all numbers from 0 to n.
func upTo(n int) []int {
	var l []int
	for k := range n + 1 {
		l = append(l, k)
	}
	return l
}

// about is the numbers beside some others, from 0 to n, each once.
func about(n int, others ...int) []int {
	var l []int
	for _, k := range append(others, 0, n) {
		for by := -2; by <= 2; by++ {
			if k+by >= 0 && k+by <= n {
				l = append(l, k+by)
			}
		}
	}
	slices.Sort(l)
	return slices.Compact(l)
}

func in(op api.Op, a, b, c uint8, imm uint32) api.Code {
	return api.Code{Op: op, A: a, B: b, C: c, Imm: imm}
}

func hashed(b []byte) api.Hashed { return api.Hashed{Bytes: b, Sum: sha256.Sum256(b)} }

// library is some things that are known.
func library() []api.Hashed {
	var all []api.Hashed
	for _, n := range []int{0, 1, 8, 31, 65, 200} {
		all = append(all, hashed(bytes.Repeat([]byte{byte(n + 1)}, n)))
	}
	return all
}

// twinKnown is what is known once more, the room behind each end as part of it.
func twinKnown(known []api.Hashed) []api.Hashed {
	all := slices.Clone(known[:cap(known)])
	for i, x := range all {
		all[i].Bytes = bytes.Clone(x.Bytes[:cap(x.Bytes)])
	}
	return all
}

func twin(m api.Machine) api.Machine {
	m.Mem = slices.Clone(m.Mem)
	return m
}

// loaded is a machine of that code.
func loaded(size int, code ...api.Code) api.Machine {
	m, e := vm.Load(size, code)
	if e != api.OK {
		panic(e)
	}
	return m
}

// example is the machine of the chapter's example.
func example() api.Machine { return loaded(4, in(api.LI, 1, 0, 0, 7), in(api.HALT, 0, 0, 0, 0)) }

// circle counts, writes what it counted, and never ends.
func circle(by uint32) api.Machine {
	return loaded(16, in(api.LI, 2, 0, 0, by), in(api.ADD, 1, 1, 2, 0), in(api.ST, 1, 0, 0, 9), in(api.JMP, 0, 0, 0, 1))
}

// lasting does its last instruction as the step with that number, from 1 on; ahead it counts and writes in a circle, as often as fits.
func lasting(steps int, last ...api.Code) api.Machine {
	rounds := max(0, (steps-2-len(last))/3)
	var code []api.Code
	if rounds > 0 {
		code = []api.Code{in(api.LI, 1, 0, 0, uint32(rounds)), in(api.LI, 2, 0, 0, 1), in(api.ST, 1, 0, 0, 15), in(api.SUB, 1, 1, 2, 0), in(api.JNZ, 1, 0, 0, 2)}
		steps -= 2 + 3*rounds
	}
	for range steps - len(last) {
		code = append(code, in(api.ADD, 3, 3, 3, 0))
	}
	return loaded(16, append(code, last...)...)
}

func halting(steps int) api.Machine  { return lasting(steps, in(api.HALT, 0, 0, 0, 0)) }
func trapping(steps int) api.Machine { return lasting(steps, api.Code{}) }

// putSum writes a sum's words to an address.
func putSum(words []uint64, at int, h api.Hash) {
	for i := range 4 {
		words[at+i] = binary.BigEndian.Uint64(h[8*i:])
	}
}

// asking asks for the preimage of a sum as the step with that number, from 2 on, and Halts behind the next one.
func asking(op api.Op, h api.Hash, steps int) api.Machine {
	m := lasting(steps+1, in(api.LI, 4, 0, 0, 11), in(op, 5, 4, 3, 0), in(api.HALT, 0, 0, 0, 0))
	putSum(m.Mem, 11, h)
	// The word that the circle writes is the last one of the sum: so it stands elsewhere.
	for i, w := range m.Mem {
		if c, ok := vm.Decode(w); ok && c.Op == api.ST {
			c.Imm = 10
			m.Mem[i] = vm.Word(c)
		}
	}
	return m
}

// drawnCode is an instruction that mostly may be done, in a memory of so many words.
func drawnCode(r *rand.Rand, size int) uint64 {
	c := in(api.LI+api.Op(r.Intn(15)), uint8(r.Intn(16)), uint8(r.Intn(16)), uint8(r.Intn(16)), uint32(r.Intn(size)))
	switch r.Intn(20) {
	case 0:
		return r.Uint64()
	case 1, 2:
		c.Op = api.HASH
		c.Imm = []uint32{0, 0, 256, 300, 511, 12}[r.Intn(6)]
	case 3, 4, 5:
		c.Op = []api.Op{api.ST, api.LD, api.PLEN, api.PRE}[r.Intn(4)]
		c.Imm /= 2
	case 6, 7:
		c.Op = api.HALT + api.Op(r.Intn(25))
	}
	return vm.Word(c)
}

// drawnMachine is a machine of drawn instructions, one of which soon asks for what may be known.
func drawnMachine(r *rand.Rand, known []api.Hashed) api.Machine {
	size := 1 << (4 + r.Intn(3))
	m := api.Machine{PC: uint64(r.Intn(size)), Mem: make([]uint64, size)}
	for i := range m.Mem {
		m.Mem[i] = drawnCode(r, size)
	}
	for i := range m.Regs {
		m.Regs[i] = uint64(r.Intn(size))
	}
	soon := (int(m.PC) + r.Intn(5)) % size
	at, by := (soon+1+r.Intn(4))%(size-3), uint8(r.Intn(16))
	putSum(m.Mem, at, known[r.Intn(len(known))].Sum)
	m.Regs[by] = uint64(at)
	m.Mem[soon] = vm.Word(in(api.PRE+api.Op(r.Intn(2)), uint8(r.Intn(16)), by, uint8(r.Intn(16)), 0))
	return m
}
