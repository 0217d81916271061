package trace

import (
	"math/rand"
	"testing"

	"proctor/api"
	"proctor/vm"
)

// wantFirst asks what First tells of two traces, in both orders, and once more.
func wantFirst(t *testing.T, a, b *Trace, k int, ok bool) {
	t.Helper()
	for range 2 {
		if n, is := First(a, b); n != k || is != ok {
			t.Fatalf("First = %d, %v, want %d, %v", n, is, k, ok)
		}
		if n, is := First(b, a); n != k || is != ok {
			t.Fatalf("First the other way = %d, %v, want %d, %v", n, is, k, ok)
		}
	}
}

// P18.2: a trace and itself, another of the same machine, and one that goes less far.
func TestFirstOfOneMachine(t *testing.T) {
	known := library()
	for _, m := range []api.Machine{example(), circle(3), loaded(1), halting(30), trapping(gap), halting(2 * gap), asking(api.PRE, known[4].Sum, 20)} {
		x := made(t, m, known, 2*gap+9)
		wantFirst(t, x, x, 0, false)
		for _, most := range []int{0, 1, 29, 30, gap, 2*gap + 9, api.MaxTrace} {
			wantFirst(t, x, made(t, m, known, most), 0, false)
		}
	}
}

// P18.2: machines that differ when they begin, in one thing alone, even if they are alike again later.
func TestFirstAtTheBeginning(t *testing.T) {
	turned := func(by func(*api.Machine)) api.Machine {
		m := example()
		by(&m)
		return m
	}
	alike := 0
	for i, m := range []api.Machine{
		turned(func(m *api.Machine) { m.Regs[1] = 1 }), turned(func(m *api.Machine) { m.Regs[15] = 1 << 63 }),
		turned(func(m *api.Machine) { m.Mem[3] = 1 }), turned(func(m *api.Machine) { m.Mem[0] ^= 1 }),
		turned(func(m *api.Machine) { m.PC = 1 }), turned(func(m *api.Machine) { m.PC = 1 << 60 }),
		turned(func(m *api.Machine) { m.Status = api.Halted }), turned(func(m *api.Machine) { m.Status = api.Trapped }),
		turned(func(m *api.Machine) { m.Mem = append(m.Mem, 0, 0, 0, 0) }), turned(func(m *api.Machine) { m.Mem = m.Mem[:2] }),
	} {
		for _, most := range []int{0, 1, 2, 9} {
			for _, other := range []int{0, 1, 2, 9} {
				a, b := made(t, example(), nil, most), made(t, m, nil, other)
				wantFirst(t, a, b, 0, true)
				end, _ := a.Machine(most)
				if n, _ := b.Machine(other); vm.Same(end, n) {
					alike++
				} else if i == 0 && most > 0 && other == most {
					t.Errorf("a register that is written over is to be seen behind %d steps", most)
				}
			}
		}
	}
	if alike == 0 {
		t.Errorf("no two runs were alike again")
	}
	still := example()
	still.PC, still.Regs[1] = 1, 7
	halted := still
	halted.Status = api.Halted
	a, b := made(t, still, nil, 5), made(t, halted, nil, 5)
	wantFirst(t, a, b, 0, true)
	x, _ := a.At(1)
	if y, _ := b.At(1); x != y {
		t.Errorf("a machine that Halts is not alike again")
	}
}

// wantParted asks where runs part of which just one knows what is asked as the step with that number.
func wantParted(t *testing.T, op api.Op, steps int, mores ...int) {
	t.Helper()
	x := hashed([]byte("just one of both knows this"))
	m := asking(op, x.Sum, steps)
	knows := []api.Hashed{x}
	for _, known := range [][]api.Hashed{nil, {{Bytes: []byte("a lie"), Sum: x.Sum}, x}} {
		for _, more := range mores {
			most := max(0, steps+more)
			k, ok := steps, true
			if most < steps {
				k, ok = 0, false
			}
			for _, other := range []int{most, most + 1, 3*gap + 5} {
				wantFirst(t, made(t, m, knows, most), made(t, m, known, other), k, ok)
				wantFirst(t, made(t, m, knows, other), made(t, m, known, most), k, ok)
			}
		}
	}
}

// P18.2: of unlike knowledge runs part behind the step that asks: at each k, at most the lesser one of both's most.
func TestFirstOfUnlikeKnowledge(t *testing.T) {
	for _, op := range []api.Op{api.PRE, api.PLEN} {
		for steps := 2; steps < 30; steps++ {
			wantParted(t, op, steps, -2, -1, 0, 1, 2, 50)
		}
	}
	for _, steps := range about(2*gap+2, gap, 2*gap)[3:] {
		wantParted(t, api.PLEN, steps, -1, 0)
	}
}

// P18.2: what nobody asks makes no difference.
func TestFirstOfKnowledgeThatIsNotAsked(t *testing.T) {
	known := library()
	m := asking(api.PRE, known[3].Sum, gap+3)
	x := made(t, m, known, 2*gap)
	wantFirst(t, x, made(t, m, known[3:4], 2*gap), 0, false)
	wantFirst(t, x, made(t, m, append([]api.Hashed{hashed([]byte("more"))}, known...), gap+3), 0, false)
	wantFirst(t, x, made(t, m, known[4:], 2*gap), gap+3, true)
}

// P18.2: what was asked of the traces ahead makes no difference, nor does First to what is asked behind it.
func TestFirstAmongOtherCalls(t *testing.T) {
	x := hashed([]byte("known"))
	m := asking(api.PLEN, x.Sum, 40)
	a, b := made(t, m, []api.Hashed{x}, 60), made(t, m, nil, 50)
	for k := 50; k >= 0; k -= 3 {
		a.At(k)
		b.At(k)
		b.Prove(k)
	}
	wantFirst(t, a, b, 40, true)
	for _, c := range []struct {
		x     *Trace
		known []api.Hashed
		most  int
	}{{a, []api.Hashed{x}, 60}, {b, nil, 50}} {
		all, _ := course(m, c.known, c.most)
		for k, n := range all {
			wantAt(t, c.x, k, n, c.known)
		}
	}
	wantFirst(t, a, b, 40, true)
}

// P18.2: drawn machines, one thing of them changed or what is known, against the second judge.
func TestFirstOfDrawnMachines(t *testing.T) {
	r := rand.New(rand.NewSource(182))
	known := library()
	apart := 0
	for range 600 {
		m := drawnMachine(r, known)
		n, less := twin(m), known
		switch r.Intn(5) {
		case 0:
			n.Mem[r.Intn(len(n.Mem))] ^= 1 << r.Intn(64)
		case 1:
			n.Regs[r.Intn(16)]++
		case 2:
			n.Status = api.Halted
		default:
			less = known[:r.Intn(len(known))]
		}
		most, other := r.Intn(30), r.Intn(30)
		one, _ := course(m, known, most)
		two, _ := course(n, less, other)
		k, ok := firstBy(one, two)
		wantFirst(t, made(t, m, known, most), made(t, n, less, other), k, ok)
		if k > 0 {
			apart++
		}
	}
	if apart < 20 {
		t.Errorf("just %d runs parted on their way", apart)
	}
}
