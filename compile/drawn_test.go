package compile

import (
	"math/rand"
	"slices"
	"testing"

	"proctor/api"
	"proctor/interp"
	"proctor/ir"
	"proctor/vm"
)

// maker makes programs that may be, of numbers that it is handed one by one: most of what they name is there, so that they come far.
type maker struct {
	pick func(n int) int
	p    api.Prog
	vars int
	room int
}

// shelves are bytes whose sums may stand in data.
func shelves() [][]byte {
	return [][]byte{[]byte("the first of some bytes"), {}, []byte("third"), flat(letters(9))}
}

// number is a number, small mostly.
func (m *maker) number() uint64 {
	return []uint64{0, 1, 2, uint64(m.pick(100)), most, 1 << 63, 1<<32 + uint64(m.pick(50)), most - uint64(m.pick(200))}[m.pick(8)]
}

// address is an expression that is an address, mostly.
func (m *maker) address(levels int) api.Expr {
	data := uint64(m.p.Data)
	switch m.pick(9) {
	case 0:
		if m.pick(3) == 0 {
			return m.expr(levels)
		}
	case 1, 2:
		if levels > 1 && data > 0 {
			m.room--
			return bin(api.REM, m.expr(levels-1), con(data))
		}
	case 3:
		if m.pick(3) == 0 {
			m.room--
			return con([]uint64{data - 1, data - 4, data, data - 3, most, m.number()}[m.pick(6)])
		}
	case 4, 5:
		m.room--
		return con(uint64(4 * m.pick(4)))
	}
	m.room--
	return con(uint64(m.pick(max(m.p.Data, 1))))
}

func (m *maker) expr(levels int) api.Expr {
	m.room--
	kind := m.pick(6)
	if levels <= 1 || m.room < 4 {
		kind %= 3
	}
	switch {
	case kind < 2 && m.vars > 0:
		return vr(m.pick(m.vars))
	case kind == 3 || kind == 4:
		op, x, y := api.ADD+api.Op(m.pick(12)), m.expr(levels-1), m.expr(levels-1)
		if (op == api.DIV || op == api.REM) && m.pick(8) > 0 {
			y = con(uint64(1 + m.pick(9)))
		}
		return bin(op, x, y)
	case kind == 5:
		return load(m.address(levels - 1))
	}
	return con(m.number())
}

// called is a call of some function that is there.
func (m *maker) called(v int) api.Stmt {
	s := call(v, m.pick(len(m.p.Funcs)))
	for range m.p.Funcs[s.F].Params {
		s.Args = append(s.Args, m.expr(5))
	}
	return s
}

// simple is a statement without parts that are statements.
func (m *maker) simple() api.Stmt {
	v := m.pick(max(m.vars, 1))
	switch kind := m.pick(12); {
	case kind < 2 && m.vars > 0:
		return set(v, m.expr(8))
	case kind < 5:
		return store(m.address(7), m.expr(8))
	case kind < 8 && m.vars > 0 && len(m.p.Funcs) > 0:
		return m.called(v)
	case kind == 8:
		return hash([]int{0, 1, 255, 256}[m.pick(4)], m.address(4), m.address(4), con([]uint64{0, 8, 9, 32, 64, 128, 129, most}[m.pick(8)]))
	case kind == 9 && m.vars > 0:
		return pre(v, m.address(3), con(uint64(m.pick(30))))
	case kind == 10 && m.vars > 0:
		return plen(v, m.address(3))
	}
	if m.pick(3) > 0 {
		return store(m.address(1), con(uint64(m.pick(9))))
	}
	return ret(m.expr(8))
}

func (m *maker) stmts(levels int) []api.Stmt {
	var l []api.Stmt
	for range m.pick(6) {
		if m.room -= 3; m.room < 0 {
			break
		}
		switch kind := m.pick(10); {
		case levels > 1 && kind < 2:
			l = append(l, fork(m.expr(4), m.stmts(levels-1), m.stmts(levels-1)))
		case levels > 1 && kind == 2:
			l = append(l, while(m.expr(4), m.stmts(levels-1)...))
		case levels > 1 && kind < 5 && m.vars > 0:
			l = append(l, countdown(m.pick(m.vars), uint64(m.pick(6)), m.stmts(levels-1)...)...)
		default:
			l = append(l, m.simple())
		}
	}
	return l
}

// made is a program, with data, and with what is known.
func (m *maker) made() (api.Prog, []uint64, []api.Hashed) {
	m.p.Data = []int{20, 1, 3, 4, 5, 8, 16, 0, 40, 18, 30, 24, 512}[m.pick(13)]
	for range 1 + m.pick(5) {
		m.room = 150
		f := api.Func{Vars: []int{0, 1, 2, 3, 4, 64}[m.pick(6)]}
		m.vars = f.Vars
		f.Params = m.pick(min(f.Vars, 6) + 1)
		f.Body = m.stmts(8)
		m.p.Funcs = append(m.p.Funcs, f)
	}
	m.p.Funcs[len(m.p.Funcs)-1].Params = 0
	var data []uint64
	var known []api.Hashed
	for _, b := range shelves() {
		data = append(data, sumOf(b)...)
		if m.pick(5) > 0 {
			known = append(known, entry(b))
		}
	}
	for range m.pick(30) {
		data = append(data, m.number())
	}
	return m.p, data[:min(len(data), m.p.Data)], known
}

// drawn is how a run of a program that was made ended, and how much of its bound the machine took.
type drawn struct {
	api.Outcome
	took float64
}

// wantMade holds a program that was made against the interpreter, with more than one list of data and of what is known.
func wantMade(t *testing.T, m *maker) (d drawn) {
	t.Helper()
	p, data, known := m.made()
	if !ir.May(p) {
		t.Fatalf("no program was made: %v", p)
	}
	i, e := Compile(p)
	if e == api.ErrLimit && !mustFit(p) {
		return drawn{}
	}
	i = wantImage(t, p)
	nodes, _ := ir.Nodes(p)
	wrong := []api.Hashed{{Sum: entry(shelves()[0]).Sum, Bytes: []byte("wrong")}}
	for _, words := range [][]uint64{nil, data[:len(data)/2], slices.Repeat([]uint64{most}, p.Data), data} {
		for _, shelf := range [][]api.Hashed{nil, append(wrong, known...), slices.Concat(known, known, wrong), known} {
			o, e := interp.Run(p, words, shelf, 1000)
			if e != api.OK || o.Status == api.Running {
				continue
			}
			steps := wantCame(t, p, i, words, shelf, o)
			bound, _ := boundBy(nodes, o.Steps)
			d = drawn{o, float64(steps) / float64(bound)}
		}
	}
	return d
}

// P15.1, P15.3: programs at random.
func TestDrawnPrograms(t *testing.T) {
	r := rand.New(rand.NewSource(15))
	count := map[api.Status]int{}
	long, great := 0, 0
	for range 6000 {
		d := wantMade(t, &maker{pick: r.Intn})
		count[d.Status]++
		if d.Steps > 10 && d.Status == api.Halted {
			long++
		}
		if d.took > 0.05 {
			great++
		}
	}
	if count[api.Halted] < 1000 || count[api.Trapped] < 1000 || count[api.Running] > 1500 || long < 150 || great < 10 {
		t.Errorf("%v; %d long ones; %d that took much of their bound", count, long, great)
	}
}

// picker picks numbers by bytes, and noughts behind their end.
func picker(b []byte) func(n int) int {
	return func(n int) int {
		if len(b) == 0 {
			return 0
		}
		k := int(b[0]) % n
		b = b[1:]
		return k
	}
}

// P15.1, P15.3: programs made of whatever bytes.
func FuzzCompile(f *testing.F) {
	f.Add([]byte{})
	f.Add([]byte{4, 1, 3, 0, 2, 8, 1, 5, 7, 3, 2, 9, 4, 4, 0, 1, 6, 7})
	f.Add([]byte("some bytes, of which a program is made"))
	f.Fuzz(func(t *testing.T, b []byte) { wantMade(t, &maker{pick: picker(b)}) })
}

// P15.2: images and machines of whatever numbers.
func FuzzImages(f *testing.F) {
	f.Add(uint16(4), 1, 2, uint16(1), uint8(1), uint16(4))
	f.Add(uint16(4), 1<<62, 1<<62, uint16(0), uint8(2), uint16(8))
	f.Add(uint16(4096), 4096, 0, uint16(1), uint8(3), uint16(4096))
	f.Add(uint16(8192), -1, -1, uint16(9), uint8(0), uint16(8192))
	f.Fuzz(func(t *testing.T, n uint16, base, data int, given uint16, status uint8, other uint16) {
		i := api.Image{Words: numbered(int(n)), Base: base, Data: data}
		wantStart(t, i, numbered(int(given)))
		wantResult(t, i, machineOf(numbered(int(other)), api.Status(status)))
		wantResult(t, i, machineOf(numbered(int(n)), api.Status(status)))
	})
}

// P15.2: images and machines at random; what an image's machine came to is told of every machine of as many words, behind whatever steps.
func TestDrawnImages(t *testing.T) {
	r := rand.New(rand.NewSource(16))
	for range 3000 {
		n := 1 << r.Intn(9)
		base := r.Intn(n + 1)
		i := api.Image{Words: letters(n), Base: base, Data: r.Intn(n - base + 1)}
		wantStart(t, i, numbered(r.Intn(i.Data+2)))
		wantResult(t, i, machineOf(numbered(n), api.Status(r.Intn(4))))
	}
	p, data, known := busy()
	i := wantImage(t, p)
	m, _ := Start(i, data...)
	for range 400 {
		wantResult(t, i, m)
		m, _, _ = vm.Run(m, known, 1)
	}
	if m.Status != api.Halted {
		t.Errorf("Status %d", m.Status)
	}
}
