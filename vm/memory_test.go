package vm

import (
	"bytes"
	"slices"
	"testing"
	"unsafe"

	"proctor/api"
)

// held keeps lists where they are until they were held against each other.
var held []any

// overlap says whether two lists share memory, the room behind their ends with it.
func overlap[T any](a, b []T) bool {
	held = append(held, a, b)
	var one T
	size := unsafe.Sizeof(one)
	x, y := uintptr(unsafe.Pointer(unsafe.SliceData(a))), uintptr(unsafe.Pointer(unsafe.SliceData(b)))
	return x < y+uintptr(cap(b))*size && y < x+uintptr(cap(a))*size
}

// wantApart asks that no two of some lists share memory.
func wantApart[T any](t *testing.T, lists ...[]T) {
	t.Helper()
	for i, a := range lists {
		for j, b := range lists[:i] {
			if overlap(a, b) {
				t.Fatalf("the lists %d and %d share memory", j, i)
			}
		}
	}
	held = nil
}

// roomy is a list with filled room behind its end.
func roomy[T any](l []T, filler T) []T {
	return append(slices.Clone(l), slices.Repeat([]T{filler}, 64)...)[:len(l)]
}

// loose is what is known with filled room behind the list's end, and behind each entry's bytes.
func loose(known []api.Hashed) []api.Hashed {
	var all []api.Hashed
	for _, x := range known {
		all = append(all, api.Hashed{Bytes: roomy(x.Bytes, 0xa5), Sum: x.Sum})
	}
	return roomy(all, hashed([]byte("in the room")))
}

// whole is what is known once more, with all the room behind the ends.
func whole(known []api.Hashed) []api.Hashed {
	var all []api.Hashed
	for _, x := range known[:cap(known)] {
		all = append(all, api.Hashed{Bytes: bytes.Clone(x.Bytes[:cap(x.Bytes)]), Sum: x.Sum})
	}
	return all
}

func sameEntry(x, y api.Hashed) bool { return bytes.Equal(x.Bytes, y.Bytes) && x.Sum == y.Sum }

// writers are machines of which each is at an instruction that writes or reads, in the memory and just behind its end.
func writers() []api.Machine {
	x := hashed([]byte("in the room"))
	var all []api.Machine
	for _, c := range []api.Code{in(api.ST, 1, 2, 0, 0), in(api.LD, 1, 2, 0, 0), in(api.HASH, 2, 3, 4, 256), in(api.HASH, 3, 2, 4, 0), in(api.PRE, 1, 2, 4, 0), in(api.PLEN, 1, 2, 0, 0), in(api.JR, 2, 0, 0, 0), in(api.HALT, 0, 0, 0, 0), in(api.ADD, 1, 2, 3, 0), {}} {
		for at := range uint64(20) {
			for _, size := range []uint64{9, 32} {
				m := api.Machine{Mem: rising(16), Regs: [16]uint64{1: 5, 2: at, 3: 4, 4: size}}
				m.Mem[0] = Word(c)
				copy(m.Mem[4:], sumWordsOf(x.Sum))
				copy(m.Mem[12:], sumWordsOf(library()[4].Sum))
				all = append(all, m)
			}
		}
	}
	return all
}

// P10.2: what is handed in stays, with the room behind its end, which is no part of the memory and of no preimage.
func TestArgumentsStay(t *testing.T) {
	for i, m := range writers() {
		for _, list := range [][]api.Hashed{nil, library()[3:9]} {
			known := loose(list)
			n := copyOf(m)
			n.Mem = roomy(m.Mem, 1<<56)
			keptWords, keptKnown := slices.Clone(n.Mem[:cap(n.Mem)]), whole(known)
			got := wantStep(t, n, known)
			end, steps, e := Run(n, known, 9)
			if !Same(got, judged(m, list)) || e != api.OK || !Same(end, course(m, list, 9)[steps]) {
				t.Fatalf("%d: the room behind lists is to be seen", i)
			}
			if !slices.Equal(n.Mem[:cap(n.Mem)], keptWords) || !slices.EqualFunc(whole(known), keptKnown, sameEntry) {
				t.Fatalf("%d: what was handed in did not stay", i)
			}
		}
	}
	for i, m := range wrongMachines() {
		n := copyOf(m)
		n.Mem = roomy(m.Mem, 1<<56)
		kept := slices.Clone(n.Mem[:cap(n.Mem)])
		May(n)
		Same(n, m)
		Step(n, nil)
		Run(n, nil, 3)
		if !slices.Equal(n.Mem[:cap(n.Mem)], kept) {
			t.Fatalf("%d: a machine that may not be did not stay", i)
		}
	}
}

// P10.1, P10.2: no two machines that are answered share memory, nor any with what was handed in; one that stood still, too.
func TestMachinesAreNew(t *testing.T) {
	for _, m := range writers() {
		for _, status := range []api.Status{api.Running, api.Halted, api.Trapped} {
			m.Status = status
			a, _ := Step(m, nil)
			b, _ := Step(m, nil)
			c, _, _ := Run(m, nil, 0)
			d, _, _ := Run(m, nil, 5)
			e, _ := Step(d, nil)
			wantApart(t, m.Mem, a.Mem, b.Mem, c.Mem, d.Mem, e.Mem)
		}
	}
}

// P10.3: a machine that was loaded shares nothing with its data; code and data stay, the room behind them too.
func TestLoadedMachinesAreNew(t *testing.T) {
	for _, count := range []int{0, 1, 7, 8, 16} {
		code := roomy(slices.Repeat([]api.Code{in(api.ADD, 250, 2, 3, 4)}, 16-count), in(api.HALT, 1, 1, 1, 1))
		data := roomy(rising(count), 77)
		keptCode, keptData := slices.Clone(code[:cap(code)]), slices.Clone(data[:cap(data)])
		m, _ := Load(16, code, data...)
		n, _ := Load(16, code, data...)
		o, _ := Load(4096, code, data...)
		wantApart(t, data, m.Mem, n.Mem, o.Mem)
		clear(m.Mem[:cap(m.Mem)])
		if !slices.Equal(code[:cap(code)], keptCode) || !slices.Equal(data[:cap(data)], keptData) {
			t.Errorf("what was handed in did not stay")
		}
		Load(8, code, data...)
		Load(7, code, data...)
		clear(code[:cap(code)])
		clear(data[:cap(data)])
		want := slices.Concat(slices.Repeat([]uint64{5<<56 | 0xa23<<44 | 4}, 16-count), rising(count))
		if !slices.Equal(n.Mem, want) || !slices.Equal(o.Mem, append(want, make([]uint64, 4080)...)) {
			t.Errorf("changed arguments are to be seen")
		}
	}
}

// P10.1: preimages that are answered are new memory, and have no bytes of the room behind what is known.
func TestPreimagesAreNew(t *testing.T) {
	known := loose(library())
	kept := whole(known)
	for _, h := range append(askable(), hashed([]byte("in the room")).Sum) {
		want, is := preimageOf(library(), h)
		a, ok := Preimage(known, h)
		b, _ := Preimage(known, h)
		if ok != is || !bytes.Equal(a, want) || !bytes.Equal(b, want) {
			t.Fatalf("Preimage = %.40x, %v", a, ok)
		}
		lists := [][]byte{a, b}
		for _, x := range known {
			lists = append(lists, x.Bytes)
		}
		wantApart(t, lists...)
		clear(a[:cap(a)])
		if c, _ := Preimage(known, h); !bytes.Equal(b, want) || !bytes.Equal(c, want) {
			t.Fatalf("a changed answer is to be seen")
		}
	}
	if !slices.EqualFunc(whole(known), kept, sameEntry) {
		t.Errorf("what was handed in did not stay")
	}
}

// P10.2: answers that are changed after they were told change nothing that is told later; arguments that are changed, nothing that was told.
func TestChangedMachines(t *testing.T) {
	known := library()[3:9]
	for i, m := range writers() {
		kept := copyOf(m)
		want, ends := judged(m, known), course(m, known, 9)
		first, _ := Step(m, known)
		for j := range first.Mem[:cap(first.Mem)] {
			first.Mem[:cap(first.Mem)][j] = most
		}
		end, steps, _ := Run(m, known, 9)
		clear(end.Mem[:cap(end.Mem)])
		again, _ := Step(m, known)
		other, _, _ := Run(m, known, 9)
		if !Same(m, kept) || !Same(again, want) || !Same(other, ends[steps]) {
			t.Fatalf("%d: a changed answer is to be seen", i)
		}
		clear(m.Mem)
		if !Same(again, want) || !Same(other, ends[steps]) {
			t.Fatalf("%d: a changed argument is to be seen", i)
		}
	}
}

// P10.2: what is known may be changed between two calls: nothing of it is kept.
func TestChangedKnowledge(t *testing.T) {
	known := []api.Hashed{hashed([]byte("first"))}
	m := asker(api.PLEN, known[0].Sum, 0)
	if n := wantStep(t, m, known); n.Regs[2] != 5 {
		t.Errorf("PLEN: %d", n.Regs[2])
	}
	known[0].Bytes[0] ^= 1
	wantTrap(t, m, known)
	if _, ok := Preimage(known, known[0].Sum); ok {
		t.Errorf("a preimage of changed bytes")
	}
	known[0] = hashed([]byte("second"))
	wantTrap(t, m, known)
	if n := wantStep(t, asker(api.PLEN, known[0].Sum, 0), known); n.Regs[2] != 6 {
		t.Errorf("PLEN: %d", n.Regs[2])
	}
}
