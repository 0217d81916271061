package trace

import (
	"math"
	"math/rand"
	"slices"
	"testing"

	"proctor/api"
	"proctor/mem"
	"proctor/onestep"
	"proctor/vm"
)

// P18.1: the chapter's examples.
func TestExamples(t *testing.T) {
	x := made(t, example(), nil, 10)
	if x.Length() != 2 {
		t.Errorf("Length = %d", x.Length())
	}
	begin, end := example(), example()
	end.PC, end.Regs[1], end.Status = 1, 7, api.Halted
	for k, m := range map[int]api.Machine{0: begin, 2: end, 10: end} {
		wantAt(t, x, k, m, nil)
	}
	wantErrors(t, x, 11, api.ErrArg)
	if x, e := New(api.Machine{Mem: make([]uint64, 3)}, nil, 1); x != nil || e != api.ErrArg {
		t.Errorf("New: %d", e)
	}
	if x, e := New(loaded(1), nil, 262145); x != nil || e != api.ErrArg {
		t.Errorf("New: %d", e)
	}
}

// P18.1: machines that may be and that may not, by their memory and by their Status.
func TestMachinesThatMayBe(t *testing.T) {
	for _, size := range []int{0, 1, 2, 3, 4, 5, 6, 7, 8, 12, 16, 100, 1024, 2048, 3000, 4095, 4096, 4097, 8192} {
		for _, s := range []api.Status{api.Running, api.Halted, api.Trapped, 3, 4, 255} {
			m := api.Machine{Status: s, Mem: make([]uint64, size), PC: math.MaxUint64}
			may := size > 0 && size <= 4096 && size&(size-1) == 0 && s <= api.Trapped
			x, e := New(m, nil, 5)
			if may != (e == api.OK) || may != (x != nil) || !may && e != api.ErrArg {
				t.Fatalf("New of %d words at Status %d: %d", size, s, e)
			}
			if may {
				wantTrace(t, m, nil, 5, upTo(5)...)
			}
		}
	}
}

// P18.1: most from 0 to MaxTrace, and no other.
func TestMost(t *testing.T) {
	for _, most := range []int{math.MinInt, math.MinInt + 1, -262144, -1, 0, 1, 2, 262143, 262144, 262145, math.MaxInt - 1, math.MaxInt} {
		for _, m := range []api.Machine{example(), circle(3), {Mem: make([]uint64, 3)}, {Mem: make([]uint64, 4), Status: 3}} {
			may := most >= 0 && most <= 262144 && vm.May(m)
			x, e := New(m, nil, most)
			if may != (e == api.OK) || may != (x != nil) || !may && e != api.ErrArg {
				t.Fatalf("New up to %d: %d", most, e)
			}
		}
	}
}

// P18.1: runs of all kinds, at each k.
func TestShortRuns(t *testing.T) {
	known := library()
	stopped := func(s api.Status) api.Machine {
		m := circle(3)
		m.Status = s
		return m
	}
	for i, m := range []api.Machine{
		example(), circle(3), stopped(api.Halted), stopped(api.Trapped),
		loaded(1), loaded(1, in(api.HALT, 0, 0, 0, 0)), loaded(1, in(api.JMP, 0, 0, 0, 0)), loaded(4096),
		{PC: math.MaxUint64, Mem: []uint64{0}}, {PC: 2, Mem: []uint64{1 << 56, 1 << 56}},
		halting(1), halting(2), halting(9), halting(20), trapping(1), trapping(9), trapping(20),
		asking(api.PRE, known[5].Sum, 9), asking(api.PLEN, known[0].Sum, 12), asking(api.PLEN, api.Hash{}, 12),
		loaded(64, in(api.LI, 1, 0, 0, 32), in(api.LI, 2, 0, 0, 100), in(api.HASH, 1, 0, 2, 300), in(api.LD, 3, 1, 0, 3), in(api.HALT, 0, 0, 0, 0)),
		loaded(8, in(api.LD, 1, 0, 0, 2), in(api.ST, 1, 0, 0, 3), in(api.HALT, 0, 0, 0, 0), in(api.MOV, 1, 2, 0, 0)),
	} {
		for _, most := range []int{0, 1, 2, 8, 9, 10, 25} {
			x := wantTrace(t, m, known, most, upTo(most)...)
			if x.Length() > most {
				t.Fatalf("%d: Length = %d", i, x.Length())
			}
		}
	}
}

// P18.1: a machine that Halts, that is Trapped behind just most steps, one short of it, one past it.
func TestLengthBesideMost(t *testing.T) {
	for _, most := range []int{1, 2, 3, 10, gap - 1, gap, gap + 1, 2*gap - 1, 2 * gap, 2*gap + 1} {
		for by := -1; by <= 1; by++ {
			steps := most + by
			if steps < 1 {
				continue
			}
			for _, m := range []api.Machine{halting(steps), trapping(steps)} {
				x := wantTrace(t, m, nil, most, about(most, gap, 2*gap, steps)...)
				end, _ := x.Machine(most)
				if x.Length() != min(steps, most) || (end.Status == api.Running) != (steps > most) {
					t.Fatalf("%d steps up to %d: Length = %d, Status %d", steps, most, x.Length(), end.Status)
				}
			}
		}
	}
	for _, s := range []api.Status{api.Halted, api.Trapped} {
		m := circle(3)
		m.Status = s
		for _, most := range []int{0, 1, gap, api.MaxTrace} {
			if x := made(t, m, nil, most); x.Length() != 0 {
				t.Errorf("Length = %d of a machine that stopped", x.Length())
			}
		}
	}
}

// P18.1: the longest trace that there is, of a machine that never stops and of some that stop about its end.
func TestLongestTrace(t *testing.T) {
	for _, m := range []api.Machine{circle(3), halting(api.MaxTrace - 1), halting(api.MaxTrace), halting(api.MaxTrace + 1), trapping(api.MaxTrace), halting(5), halting(100 * gap)} {
		x := made(t, m, nil, api.MaxTrace)
		if _, steps, _ := vm.Run(m, nil, api.MaxTrace); x.Length() != steps {
			t.Errorf("Length = %d, want %d", x.Length(), steps)
		}
		for _, k := range about(api.MaxTrace, 5, gap, 99*gap, 100*gap, api.MaxTrace-gap) {
			want, _, _ := vm.Run(m, nil, k)
			wantAt(t, x, k, want, nil)
		}
		wantErrors(t, x, api.MaxTrace+1, api.ErrArg)
	}
	m := loaded(4096, in(api.LI, 2, 0, 0, 4), in(api.ADD, 1, 1, 2, 0), in(api.ST, 1, 1, 0, 3), in(api.JMP, 0, 0, 0, 1))
	x := made(t, m, nil, api.MaxTrace)
	for _, k := range []int{0, 1, gap, 3057, 3064, 3065, 3066, api.MaxTrace} {
		want, _, _ := vm.Run(m, nil, k)
		wantAt(t, x, k, want, nil)
	}
}

// P18.1: k may be asked for in any order, and again.
func TestOrders(t *testing.T) {
	r := rand.New(rand.NewSource(1))
	most := 3*gap + 7
	for _, m := range []api.Machine{circle(5), halting(2*gap + 1), trapping(most)} {
		near := about(most, gap, 2*gap, 3*gap, gap/2, 100)
		back := slices.Clone(near)
		slices.Reverse(back)
		var drawn []int
		for range 100 {
			drawn = append(drawn, r.Intn(most+1))
		}
		for _, ks := range [][]int{near, back, drawn, append(slices.Clone(drawn), drawn...), slices.Concat(back, near, drawn), {most, 0, most, 0, gap, gap, gap - 1, gap}} {
			wantTrace(t, m, nil, most, ks...)
		}
	}
	m, most := circle(2), gap+30
	all, _ := course(m, nil, most)
	x := made(t, m, nil, most)
	for _, k := range slices.Concat(upTo(most), upTo(most)) {
		if h, e := x.At(k); h != commitBy(all[k]) || e != api.OK {
			t.Fatalf("At(%d): %d", k, e)
		}
	}
}

// P18.1: each of the three calls alone, the first time that something is asked.
func TestCallsByThemselves(t *testing.T) {
	m, most := circle(7), 2*gap
	for _, k := range about(most, gap, gap/2) {
		want, _, _ := vm.Run(m, nil, k)
		if h, e := made(t, m, nil, most).At(k); h != commitBy(want) || e != api.OK {
			t.Errorf("At(%d): %d", k, e)
		}
		if n, e := made(t, m, nil, most).Machine(k); !vm.Same(n, want) || e != api.OK {
			t.Errorf("Machine(%d): %d", k, e)
		}
		p, e := made(t, m, nil, most).Prove(k)
		if h, ok := onestep.Check(commitBy(want), p); e != api.OK || !ok || h == commitBy(want) {
			t.Errorf("Prove(%d): %d", k, e)
		}
	}
}

// P18.1: k that there are not.
func TestWrongK(t *testing.T) {
	for _, most := range []int{0, 1, 10, gap, 3 * gap, api.MaxTrace} {
		for _, m := range []api.Machine{example(), circle(3), loaded(1)} {
			x := made(t, m, nil, most)
			for range 2 {
				for _, k := range []int{-1, most + 1, -most - 1, -gap, most + gap, api.MaxTrace + 1, math.MinInt, math.MinInt + 1, math.MaxInt - 1, math.MaxInt} {
					wantErrors(t, x, k, api.ErrArg)
				}
				want, _, _ := vm.Run(m, nil, most)
				wantAt(t, x, most, want, nil)
				wantAt(t, x, 0, m, nil)
			}
		}
	}
}

// P18.1, P18.2: traces that are not there, which tell ErrNil ahead of ErrArg.
func TestNotThere(t *testing.T) {
	for _, x := range []*Trace{nil, {}, new(Trace)} {
		if x.Length() != 0 {
			t.Errorf("Length = %d", x.Length())
		}
		for _, k := range []int{math.MinInt, -1, 0, 1, api.MaxTrace, api.MaxTrace + 1, math.MaxInt} {
			wantErrors(t, x, k, api.ErrNil)
		}
		there := made(t, example(), nil, 5)
		for _, pair := range [][2]*Trace{{x, there}, {there, x}, {x, x}, {x, nil}, {nil, x}} {
			if k, ok := First(pair[0], pair[1]); k != 0 || ok {
				t.Errorf("First = %d, %v", k, ok)
			}
		}
	}
}

// P18.1: a step that asks for what is not known can't be proved, and the ones beside it can.
func TestProofsThatThereAreNot(t *testing.T) {
	known := library()
	for _, op := range []api.Op{api.PRE, api.PLEN} {
		for _, steps := range []int{2, 9, gap, gap + 1, gap + 2} {
			m := asking(op, hashed([]byte("never heard of")).Sum, steps)
			x := wantTrace(t, m, known, steps+5, about(steps+5, steps)...)
			for range 2 {
				if _, e := x.Prove(steps - 1); e != api.ErrShort {
					t.Errorf("Prove(%d): %d", steps-1, e)
				}
				for _, k := range []int{steps - 2, steps, steps + 5} {
					if p, e := x.Prove(k); e != api.OK || len(p.Pre) > 0 {
						t.Errorf("Prove(%d): %d", k, e)
					}
				}
			}
			if x.Length() != steps {
				t.Errorf("Length = %d", x.Length())
			}
		}
	}
}

// P18.1: a preimage that is longer than layer 2 allows, of which onestep.Make says what is told.
func TestLongPreimages(t *testing.T) {
	for _, n := range []int{65535, 65536, 65537, 1 << 20} {
		x := hashed(make([]byte, n))
		for _, op := range []api.Op{api.PRE, api.PLEN} {
			m := asking(op, x.Sum, 5)
			y := wantTrace(t, m, []api.Hashed{x}, 9, upTo(9)...)
			p, e := y.Prove(4)
			if q, f := onestep.Make(m, []api.Hashed{x}); f != api.OK || len(q.Pre) > 0 {
				t.Fatal("the first step asks for nothing")
			}
			if e == api.OK && len(p.Pre) != n {
				t.Errorf("a preimage of %d bytes", len(p.Pre))
			}
		}
	}
}

// P18.1: what is known counts as onestep and vm say: nothing, entries that collide, that are doubled, that are false.
func TestKnowledge(t *testing.T) {
	a, b := hashed([]byte("first")), hashed([]byte("the second"))
	lie := api.Hashed{Bytes: []byte("no such thing"), Sum: a.Sum}
	m := asking(api.PLEN, a.Sum, 3)
	for i, c := range []struct {
		known []api.Hashed
		n     uint64
		ok    bool
	}{
		{nil, 0, false}, {[]api.Hashed{}, 0, false}, {[]api.Hashed{b}, 0, false},
		{[]api.Hashed{a}, 5, true}, {[]api.Hashed{b, a}, 5, true}, {[]api.Hashed{a, a, a}, 5, true},
		{[]api.Hashed{lie}, 0, false}, {[]api.Hashed{lie, a}, 0, false}, {[]api.Hashed{a, lie}, 5, true},
		{[]api.Hashed{{Bytes: b.Bytes, Sum: a.Sum}, b, a}, 0, false}, {[]api.Hashed{{Bytes: a.Bytes}, {Sum: b.Sum}, a}, 5, true},
	} {
		x := wantTrace(t, m, c.known, 8, upTo(8)...)
		n, _ := x.Machine(8)
		p, e := x.Prove(2)
		if n.Regs[5] != c.n || (n.Status == api.Halted) != c.ok || (e == api.OK) != c.ok || string(p.Pre) == "first" != c.ok {
			t.Errorf("%d: Status %d, %d bytes, error %d", i, n.Status, n.Regs[5], e)
		}
	}
}

// P18.1: drawn machines, at drawn k.
func TestDrawnMachines(t *testing.T) {
	r := rand.New(rand.NewSource(18))
	known := library()
	for range 200 {
		most := r.Intn(60)
		ks := upTo(most)
		r.Shuffle(len(ks), func(i, j int) { ks[i], ks[j] = ks[j], ks[i] })
		wantTrace(t, drawnMachine(r, known), known[:r.Intn(len(known)+1)], most, ks...)
	}
}

// P18.1: marks tell the last thing that was kept, and what is left from there.
func TestMarks(t *testing.T) {
	for gap := 1; gap < 6; gap++ {
		l := marks[int]{gap: gap}
		if l.count() != 0 {
			t.Errorf("count = %d", l.count())
		}
		for i := range 5 {
			l.keep(i * gap)
			for k := range (i + 1) * gap {
				if x, rest := l.upTo(k); x+rest != k || x%gap != 0 || rest < 0 || rest >= gap {
					t.Errorf("%d steps between marks: upTo(%d) = %d, %d", gap, k, x, rest)
				}
			}
		}
		if l.count() != 5 {
			t.Errorf("count = %d", l.count())
		}
	}
}

// P18.1: machines are kept at some steps alone, and sums of what was asked alone.
func TestWhatIsKept(t *testing.T) {
	x := made(t, circle(3), nil, 5*gap+1)
	if x.kept.count() != 6 || len(x.sums) != 0 {
		t.Errorf("%d machines and %d sums are kept", x.kept.count(), len(x.sums))
	}
	for _, k := range []int{3, 3, gap, 4, 3} {
		x.At(k)
		x.Machine(k + 1)
		x.Prove(k + 2)
	}
	x.At(-1)
	x.At(5*gap + 2)
	if x.kept.count() != 6 || len(x.sums) != 3 {
		t.Errorf("%d machines and %d sums are kept", x.kept.count(), len(x.sums))
	}
	y := made(t, example(), nil, api.MaxTrace)
	for _, k := range []int{2, 3, gap, api.MaxTrace} {
		h, _ := y.At(k)
		if want, _ := mem.Commit(func() api.Machine { m, _ := y.Machine(2); return m }()); h != want {
			t.Errorf("At(%d) = %x", k, h)
		}
	}
	if y.kept.count() != 1 || len(y.sums) != 1 {
		t.Errorf("%d machines and %d sums are kept", y.kept.count(), len(y.sums))
	}
}
