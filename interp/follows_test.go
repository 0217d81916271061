package interp

import (
	"math/rand"
	"slices"
	"testing"

	"proctor/api"
	"proctor/ir"
)

// maker makes programs that may be, of numbers that it is handed one by one: most of what they name is there, so that they come far.
type maker struct {
	pick  func(n int) int
	p     api.Prog
	vars  int
	room  int
	quiet bool
}

// shelves are bytes whose sums may stand in data.
func shelves() [][]byte {
	return [][]byte{[]byte("the first of some bytes"), {}, []byte("third"), flat(letters(9))}
}

// address is an expression that is an address, mostly.
func (m *maker) address(levels int) api.Expr {
	data := uint64(m.p.Data)
	switch m.pick(8) {
	case 0:
		if m.pick(3) == 0 {
			return m.expr(levels)
		}
	case 1, 2:
		if levels > 1 && data > 0 {
			return bin(api.REM, m.expr(levels-1), con(data))
		}
	case 3:
		return con([]uint64{data - 1, data - 4, data - 1, data, data - 3, most}[m.pick(6)])
	case 4, 5:
		return con(uint64(4 * m.pick(4)))
	}
	m.room--
	return con(uint64(m.pick(max(m.p.Data, 1))))
}

func (m *maker) expr(levels int) api.Expr {
	m.room--
	kind := m.pick(6)
	if levels <= 1 || m.room < 4 {
		kind %= 3
	}
	switch {
	case kind < 2 && m.vars > 0:
		return vr(m.pick(m.vars))
	case kind == 3 || kind == 4:
		op, x, y := api.ADD+api.Op(m.pick(12)), m.expr(levels-1), m.expr(levels-1)
		if (op == api.DIV || op == api.REM) && m.pick(8) > 0 {
			y = con(uint64(1 + m.pick(9)))
		}
		return bin(op, x, y)
	case kind == 5:
		return load(m.address(levels - 1))
	}
	return con([]uint64{0, 1, 2, uint64(m.pick(100)), most, 1 << 63}[m.pick(6)])
}

// simple is a statement without parts that are statements.
func (m *maker) simple() api.Stmt {
	v := m.pick(max(m.vars, 1))
	switch kind := m.pick(10); {
	case kind < 2 && m.vars > 0:
		return set(v, m.expr(6))
	case kind < 5:
		return store(m.address(6), m.expr(8))
	case kind == 5 && m.vars > 0 && len(m.p.Funcs) > 0:
		f := m.pick(len(m.p.Funcs))
		s := call(v, f)
		for range m.p.Funcs[f].Params {
			s.Args = append(s.Args, m.expr(5))
		}
		return s
	case kind == 6:
		return hash([]int{0, 1, 255, 256}[m.pick(4)], m.address(4), m.address(4), con(uint64([]int{0, 8, 9, 32, 64, 128, 129}[m.pick(7)])))
	case kind == 7 && m.vars > 0 && !m.quiet:
		return pre(v, m.address(3), con(uint64(m.pick(30))))
	case kind == 8 && m.vars > 0 && !m.quiet:
		return plen(v, m.address(3))
	}
	if m.pick(3) > 0 {
		return put(uint64(m.pick(max(m.p.Data, 1))), uint64(m.pick(9)))
	}
	return ret(m.expr(8))
}

func (m *maker) stmts(levels int) []api.Stmt {
	var l []api.Stmt
	for range m.pick(5) {
		if m.room -= 3; m.room < 0 {
			break
		}
		switch kind := m.pick(10); {
		case levels > 1 && kind < 2:
			l = append(l, fork(m.expr(4), m.stmts(levels-1), m.stmts(levels-1)))
		case levels > 1 && kind == 2:
			l = append(l, while(m.expr(4), m.stmts(levels-1)...))
		case levels > 1 && kind < 5 && m.vars > 0:
			l = append(l, countdown(m.pick(m.vars), uint64(m.pick(6)), m.stmts(levels-1)...)...)
		default:
			l = append(l, m.simple())
		}
	}
	return l
}

// made is a program, with data and with what is known.
func (m *maker) made() (api.Prog, []uint64, []api.Hashed) {
	m.p.Data = []int{20, 1, 3, 4, 5, 8, 16, 0, 40, 18, 30, 24}[m.pick(12)]
	for range 1 + m.pick(4) {
		m.room = 150
		f := api.Func{Vars: m.pick(5)}
		m.vars = f.Vars
		f.Params = m.pick(f.Vars + 1)
		f.Body = m.stmts(5)
		m.p.Funcs = append(m.p.Funcs, f)
	}
	m.p.Funcs[len(m.p.Funcs)-1].Params = 0
	var data []uint64
	var known []api.Hashed
	for _, b := range shelves() {
		data = append(data, sumOf(b)...)
		if m.pick(5) > 0 {
			known = append(known, entry(b))
		}
	}
	for range m.pick(30) {
		data = append(data, uint64(m.pick(50)))
	}
	return m.p, data[:min(len(data), m.p.Data)], known
}

// wantMade holds the runs of a made program against the judge, with this fuel and with others, and against each other, and tells the outcome.
func wantMade(t *testing.T, m *maker, fuel int) api.Outcome {
	t.Helper()
	p, data, known := m.made()
	if !ir.May(p) {
		n, _ := ir.Nodes(p)
		t.Fatalf("no program was made, of %d nodes: %v", n, p)
	}
	o := wantRun(t, p, data, known, fuel)
	wantAlike := func(name string, known []api.Hashed, fuel int) {
		if again, e := Run(p, data, known, fuel); e != api.OK || !sameOutcome(again, o) {
			t.Fatalf("%s: %v, %d, want %v: %v", name, again, e, o, p)
		}
	}
	wantAlike("once more", known, fuel)
	if o.Status != api.Running {
		wantAlike("just as much fuel", known, o.Steps)
		wantAlike("more fuel", known, o.Steps+1)
		wantAlike("the most fuel", known, 1<<22)
	}
	if o.Steps > 0 {
		if short := wantRun(t, p, data, known, o.Steps-1); short.Status != api.Running || short.Steps != o.Steps-1 {
			t.Fatalf("one less fuel: %v, of %v", short, o)
		}
		wantRun(t, p, data, known, o.Steps/2)
	}
	if m.quiet {
		wantAlike("nothing known", nil, fuel)
		wantAlike("something wrong known", []api.Hashed{{Sum: entry(nil).Sum, Bytes: []byte("wrong")}}, fuel)
	}
	if o.Status != api.Trapped {
		// Nothing that it lacked: so more behind what is known changes nothing.
		wantAlike("more known", append(slices.Clone(known), entry([]byte("more")), entry(shelves()[0]), api.Hashed{Sum: entry(shelves()[2]).Sum}), fuel)
	}
	return o
}

// P14.1, P14.2: programs at random.
func TestRandomPrograms(t *testing.T) {
	r := rand.New(rand.NewSource(14))
	count := map[api.Status]int{}
	long := 0
	for i := range 6000 {
		m := &maker{pick: r.Intn, quiet: i%3 == 0}
		o := wantMade(t, m, []int{300, 1000, 20}[i%3])
		count[o.Status]++
		if o.Steps > 10 && o.Status == api.Halted {
			long++
		}
	}
	if count[api.Halted] < 1000 || count[api.Trapped] < 1000 || count[api.Running] < 200 || long < 200 {
		t.Errorf("%v; %d long ones", count, long)
	}
}

// P14.1, P14.2: programs made of whatever bytes.
func FuzzRun(f *testing.F) {
	f.Add([]byte{}, uint16(9), false)
	f.Add([]byte{4, 1, 3, 0, 2, 8, 1, 5, 7, 3, 2, 9, 4, 4, 0, 1, 6, 7}, uint16(99), true)
	f.Add([]byte("some bytes, of which a program is made"), uint16(500), false)
	f.Fuzz(func(t *testing.T, b []byte, fuel uint16, quiet bool) {
		pick := func(n int) int {
			if len(b) == 0 {
				return 0
			}
			k := int(b[0]) % n
			b = b[1:]
			return k
		}
		wantMade(t, &maker{pick: pick, quiet: quiet}, int(fuel%2000))
	})
}
