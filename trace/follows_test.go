package trace

import (
	"encoding/binary"
	"math/rand"
	"slices"
	"testing"

	"proctor/api"
	"proctor/exec"
	"proctor/mem"
	"proctor/msg"
	"proctor/onestep"
	"proctor/sha"
	"proctor/state"
	"proctor/stf"
	"proctor/vm"
)

// wantProved asks that each step of a trace that can be proved checks, and tells what is next; it counts these steps.
func wantProved(t *testing.T, x *Trace, most int) (proved int) {
	t.Helper()
	for k := range most {
		before, _ := x.At(k)
		after, e := x.At(k + 1)
		if e != api.OK {
			t.Fatalf("At(%d): %d", k+1, e)
		}
		p, e := x.Prove(k)
		if e != api.OK {
			continue
		}
		proved++
		if h, ok := onestep.Check(before, p); !ok || h != after {
			t.Fatalf("the step %d: %x, %v, want %x", k, h, ok, after)
		}
		if before == after {
			continue
		}
		if h, ok := onestep.Check(after, p); ok {
			t.Fatalf("the step %d is proved of the next machine, too: %x", k, h)
		}
	}
	return proved
}

// P18.3: the proof of each step checks against At(k) and tells At(k + 1).
func TestStepsAreProved(t *testing.T) {
	known := library()
	for _, m := range []api.Machine{example(), circle(3), loaded(1), halting(25), trapping(30), asking(api.PRE, known[5].Sum, 20), asking(api.PLEN, known[0].Sum, 2)} {
		if n := wantProved(t, made(t, m, known, 35), 35); n != 35 {
			t.Errorf("%d steps of 35 are proved", n)
		}
	}
	m := asking(api.PLEN, api.Hash{}, 20)
	if n := wantProved(t, made(t, m, known, 35), 35); n != 34 {
		t.Errorf("%d steps of 35 are proved", n)
	}
	wantProved(t, made(t, circle(4), nil, gap+40), gap+40)
}

// P18.3: of drawn machines, too; just a step that asks for what is not known is not proved.
func TestStepsOfDrawnMachinesAreProved(t *testing.T) {
	r := rand.New(rand.NewSource(183))
	known := library()
	for range 300 {
		m := drawnMachine(r, known)
		most := 1 + r.Intn(40)
		x := made(t, m, known, most)
		proved := wantProved(t, x, most)
		end, _ := x.Machine(most)
		if proved == most {
			continue
		}
		w := end.Mem[end.PC]
		if c, ok := vm.Decode(w); proved != most-1 || end.Status != api.Trapped || !ok || c.Op != api.PRE && c.Op != api.PLEN {
			t.Fatalf("%d steps of %d are proved, to %x", proved, most, w)
		}
	}
}

// P18.3: traces that begin alike and end unlike differ for the first time behind a step: ahead of it they are alike.
func TestThereIsAFirstStep(t *testing.T) {
	r := rand.New(rand.NewSource(184))
	known := library()
	apart := 0
	for range 600 {
		m := drawnMachine(r, known)
		most := 1 + r.Intn(40)
		a, b := made(t, m, known, most), made(t, m, known[:r.Intn(len(known))], most)
		x, _ := a.At(most)
		y, _ := b.At(most)
		k, ok := First(a, b)
		if x != y && (!ok || k < 1 || k > most) {
			t.Fatalf("First = %d, %v of ends that are unlike", k, ok)
		}
		if !ok {
			continue
		}
		apart++
		for i := range k + 1 {
			x, _ = a.At(i)
			if y, _ = b.At(i); (x == y) != (i < k) {
				t.Fatalf("First = %d, and behind %d steps: %x, %x", k, i, x, y)
			}
		}
	}
	if apart < 20 {
		t.Errorf("just %d runs parted on their way", apart)
	}
}

// P18.3: the rule's own machine, whose run a dispute may be about: some of its steps are proved, and where it halts is its last machine.
func TestTheRule(t *testing.T) {
	var s api.State
	deposit, e := msg.Write(api.Msg{Kind: api.MDeposit, To: 3, Amount: 5})
	known, f := stf.Prove(s, deposit)
	root, g := state.Root(s)
	m, h := stf.Begin(root, sha.Sum(deposit))
	if e != api.OK || f != api.OK || g != api.OK || h != api.OK {
		t.Fatal(e, f, g, h)
	}
	x := made(t, m, known, api.MaxTrace-1)
	steps := x.Length()
	for k := 0; k < steps; k += 131 {
		before, _ := x.At(k)
		after, _ := x.At(k + 1)
		p, e := x.Prove(k)
		if got, ok := onestep.Check(before, p); e != api.OK || !ok || got != after {
			t.Fatalf("the step %d of %d: %d, %v", k, steps, e, ok)
		}
	}
	end, _ := x.Machine(steps)
	behind, _, _ := exec.Delta(s, deposit)
	want, _ := state.Root(behind)
	if got, did, ok := stf.Output(end); got != want || !did || !ok {
		t.Errorf("Output = %x, %v, %v", got, did, ok)
	}
	wantFirst(t, x, made(t, m, known, api.MaxTrace), 0, false)
	// Who doesn't know the message comes to an end of its own, at the first step that asks for it.
	less := slices.DeleteFunc(slices.Clone(known), func(x api.Hashed) bool { return x.Sum == sha.Sum(deposit) })
	y := made(t, m, less, api.MaxTrace-1)
	wantFirst(t, x, y, y.Length(), true)
	if _, e := y.Prove(y.Length() - 1); e != api.ErrShort {
		t.Errorf("Prove: %d", e)
	}
}

// numbers are the words of some bytes, and noughts.
func numbers(plain []byte, count int) []uint64 {
	words := make([]uint64, count)
	for i := range words {
		if len(plain) >= 8*i+8 {
			words[i] = binary.BigEndian.Uint64(plain[8*i:])
		}
	}
	return words
}

func plainOf(words []uint64) (b []byte) {
	for _, w := range words {
		b = binary.BigEndian.AppendUint64(b, w)
	}
	return b
}

// P18.1 to P18.3: whatever the machine, whatever is known, whatever is asked.
func FuzzTrace(f *testing.F) {
	f.Add(uint8(2), uint8(0), uint64(0), plainOf(example().Mem), []byte{}, []byte{}, 10, 2)
	f.Add(uint8(4), uint8(0), uint64(0), plainOf(circle(3).Mem), []byte{1}, []byte("abc"), 3000, 2048)
	x := hashed([]byte("abc"))
	f.Add(uint8(4), uint8(0), uint64(0), plainOf(asking(api.PRE, x.Sum, 9).Mem), []byte{}, x.Bytes, 50, 9)
	f.Add(uint8(4), uint8(1), uint64(3), plainOf(asking(api.PLEN, x.Sum, 5).Mem), []byte{}, []byte("no"), 50, 5)
	f.Add(uint8(13), uint8(3), uint64(1<<63), []byte{}, []byte{}, []byte("x"), -1, 262145)
	f.Fuzz(func(t *testing.T, depth, status uint8, pc uint64, words, regs, plain []byte, most, k int) {
		m := api.Machine{PC: pc, Regs: [16]uint64(numbers(regs, 16)), Status: api.Status(status % 4), Mem: numbers(words, 1<<(depth%14))}
		if depth >= 200 {
			m.Mem = m.Mem[:len(m.Mem)*2/3]
		}
		known := []api.Hashed{hashed(plain), {Bytes: plain}, hashed(plain[:len(plain)/2])}
		trace, e := New(m, known, most)
		if may := vm.May(m) && most >= 0 && most <= 262144; may != (e == api.OK) || may != (trace != nil) {
			t.Fatalf("New: %d", e)
		}
		if trace == nil {
			wantErrors(t, trace, k, api.ErrNil)
			return
		}
		if k < 0 || k > most {
			wantErrors(t, trace, k, api.ErrArg)
			return
		}
		want, _, _ := vm.Run(m, known, k)
		wantAt(t, trace, k, want, known)
		wantProved(t, trace, min(most, 20))
		other := made(t, m, nil, min(most, 100))
		one, _ := course(m, known, min(most, 100))
		two, _ := course(m, nil, min(most, 100))
		n, ok := firstBy(one, two)
		wantFirst(t, trace, other, n, ok)
		if h, e := mem.Commit(m); h != commitBy(m) || e != api.OK {
			t.Fatalf("the machine that was handed in did not stay")
		}
	})
}
