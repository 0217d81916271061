package ir

import (
	"fmt"
	"math"
	"math/rand"
	"slices"
	"testing"

	"proctor/api"
)

// stmtsIn are all statements of a program, where they stand; exprsIn all expressions.
func stmtsIn(p *api.Prog) []*api.Stmt {
	var all []*api.Stmt
	var walk func(list []api.Stmt)
	walk = func(list []api.Stmt) {
		for i := range list {
			all = append(all, &list[i])
			walk(list[i].Then)
			walk(list[i].Else)
		}
	}
	for _, f := range p.Funcs {
		walk(f.Body)
	}
	return all
}

func exprsIn(p *api.Prog) []*api.Expr {
	var all []*api.Expr
	var walk func(list []api.Expr)
	walk = func(list []api.Expr) {
		for i := range list {
			all = append(all, &list[i])
			walk(list[i].L)
		}
	}
	for _, s := range stmtsIn(p) {
		walk(s.Args)
	}
	return all
}

// listsIn are all lists of statements of a program, where they stand.
func listsIn(p *api.Prog) []*[]api.Stmt {
	var all []*[]api.Stmt
	for i := range p.Funcs {
		all = append(all, &p.Funcs[i].Body)
	}
	for _, s := range stmtsIn(p) {
		all = append(all, &s.Then, &s.Else)
	}
	return all
}

// turned are a program with something of it turned, one thing at a time.
func turned(p api.Prog) []api.Prog {
	var all []api.Prog
	put := func(turn func(q *api.Prog)) {
		q := twin(p)
		turn(&q)
		all = append(all, q)
	}
	numbers := []int{math.MinInt, -1, 0, 1, 2, 3, 4, 63, 64, 65, 255, 256, 257, 1024, 1025, most}
	put(func(q *api.Prog) { q.Funcs = append(q.Funcs, api.Func{}) })
	put(func(q *api.Prog) { slices.Reverse(q.Funcs) })
	for i := range p.Funcs {
		put(func(q *api.Prog) { q.Funcs = slices.Delete(q.Funcs, i, i+1) })
		for _, n := range numbers {
			put(func(q *api.Prog) { q.Data = n })
			put(func(q *api.Prog) { q.Funcs[i].Params = n })
			put(func(q *api.Prog) { q.Funcs[i].Vars = n })
		}
	}
	for i := range stmtsIn(&p) {
		for kind := range 11 {
			put(func(q *api.Prog) { stmtsIn(q)[i].Kind = api.StmtKind(kind) })
		}
		for _, n := range numbers {
			put(func(q *api.Prog) { stmtsIn(q)[i].V = n })
			put(func(q *api.Prog) { stmtsIn(q)[i].F = n })
			put(func(q *api.Prog) { stmtsIn(q)[i].Tag = n })
		}
		put(func(q *api.Prog) { slices.Reverse(stmtsIn(q)[i].Args) })
		put(func(q *api.Prog) { stmtsIn(q)[i].Args = append(stmtsIn(q)[i].Args, con(1)) })
		put(func(q *api.Prog) { stmtsIn(q)[i].Args = nil })
		put(func(q *api.Prog) { s := stmtsIn(q)[i]; s.Then, s.Else = s.Else, s.Then })
	}
	for i := range listsIn(&p) {
		put(func(q *api.Prog) { *listsIn(q)[i] = nil })
		put(func(q *api.Prog) { *listsIn(q)[i] = append(*listsIn(q)[i], ret(con(1))) })
		put(func(q *api.Prog) { slices.Reverse(*listsIn(q)[i]) })
		put(func(q *api.Prog) { l := listsIn(q)[i]; *l = append(*l, *l...) })
		put(func(q *api.Prog) { l := listsIn(q)[i]; *l = (*l)[:len(*l)/2] })
	}
	return append(all, turnedExprs(p)...)
}

// turnedExprs are a program with an expression turned, one thing at a time.
func turnedExprs(p api.Prog) []api.Prog {
	var all []api.Prog
	for i := range exprsIn(&p) {
		put := func(turn func(x *api.Expr)) {
			q := twin(p)
			turn(exprsIn(&q)[i])
			all = append(all, q)
		}
		for kind := range 6 {
			put(func(x *api.Expr) { x.Kind = api.ExprKind(kind) })
		}
		for op := range 27 {
			put(func(x *api.Expr) { x.Op = api.Op(op) })
		}
		for _, n := range []uint64{0, 1, 10, 1 << 63, math.MaxUint64} {
			put(func(x *api.Expr) { x.N = n })
			put(func(x *api.Expr) { *x = con(n) })
		}
		for _, v := range []int{math.MinInt, -1, 0, 1, 2, 3, 64, most} {
			put(func(x *api.Expr) { x.V = v })
			put(func(x *api.Expr) { *x = vr(v) })
		}
		put(func(x *api.Expr) { slices.Reverse(x.L) })
		put(func(x *api.Expr) { x.L = nil })
		put(func(x *api.Expr) { x.L = append(x.L, con(1)) })
		put(func(x *api.Expr) { *x = load(*x) })
		put(func(x *api.Expr) { *x = bin(api.ADD, *x, con(1)) })
		put(func(x *api.Expr) { *x = bin(api.ADD, con(1), *x) })
	}
	return all
}

// wantPair holds Same and Text of two programs against each other and the judge.
func wantPair(t *testing.T, p, q api.Prog) {
	t.Helper()
	_, pMay := nodesBy(p)
	_, qMay := nodesBy(q)
	want := pMay && qMay && alike(p, q)
	if Same(p, q) != want || Same(q, p) != want {
		t.Fatalf("Same = %v, %v, want %v: %v and %v", Same(p, q), Same(q, p), want, p, q)
	}
	x, e := Text(p)
	y, f := Text(q)
	if e == api.OK && f == api.OK && (x == y) != want {
		t.Fatalf("the texts %q and %q; Same: %v", x, y, want)
	}
}

// P13.1, P13.2: programs that differ in one thing alone, as far as they may be, are not the same and have unlike texts.
func TestTurnedPrograms(t *testing.T) {
	may, not := 0, 0
	for _, p := range []api.Prog{sample(), of(0), of(2, set(1, deep(4, true))), around(eachStmt()...), around(nests(3)...)} {
		for _, q := range turned(p) {
			wantPair(t, p, q)
			if wantJudged(t, q) {
				may++
			} else {
				not++
			}
		}
	}
	if may < 500 || not < 2000 {
		t.Errorf("%d programs that may be alone, %d that may not", may, not)
	}
}

// P13.2: all of the programs that one is turned to are held against each other.
func TestUnlikePrograms(t *testing.T) {
	var all []api.Prog
	byText := map[string]int{}
	for _, p := range []api.Prog{sample(), around(eachStmt()...)} {
		for _, q := range append(turned(p), p) {
			if s, e := Text(q); e == api.OK {
				if i, is := byText[s]; is && !alike(all[i], q) {
					t.Fatalf("two programs have the text %q", s)
				}
				byText[s] = len(all)
				all = append(all, q)
			}
		}
	}
	for i := 0; i < len(all); i += 13 {
		for j := 0; j < len(all); j += 29 {
			wantPair(t, all[i], all[j])
		}
	}
	if len(byText) < 300 {
		t.Errorf("%d texts alone", len(byText))
	}
}

// P13.1: lists that are nil and empty are the same, wherever they stand.
func TestNilAndEmpty(t *testing.T) {
	for _, p := range []api.Prog{sample(), of(0), around(eachStmt()...)} {
		q := twin(p)
		for _, l := range listsIn(&q) {
			if len(*l) == 0 {
				*l = make([]api.Stmt, 0, 4)
			}
		}
		for _, s := range stmtsIn(&q) {
			if len(s.Args) == 0 {
				s.Args = []api.Expr{}
			}
		}
		for _, x := range exprsIn(&q) {
			if len(x.L) == 0 {
				x.L = []api.Expr{}
			}
		}
		wantPair(t, p, q)
		if !Same(p, q) || !wantJudged(t, q) {
			t.Errorf("empty lists are to be seen")
		}
	}
	wantPair(t, api.Prog{}, api.Prog{Funcs: []api.Func{}})
}

// P13.1: programs that may not be are not the same as any, themselves too.
func TestSameOfNoPrograms(t *testing.T) {
	own := []api.Stmt{while(con(1))}
	own[0].Then = own
	for i, p := range []api.Prog{{}, {Funcs: make([]api.Func, 33)}, of(-1), of(65), of(0, set(0, con(1))), {Funcs: make([]api.Func, 1), Data: 1025}, of(0, own...), of(0, ret(wells(9)))} {
		for _, q := range []api.Prog{p, sample(), of(0), of(0, own...), {}} {
			if Same(p, q) || Same(q, p) {
				t.Errorf("%d: the same", i)
			}
		}
	}
}

// maker makes programs at random; most of them may be.
type maker struct {
	*rand.Rand
	p    api.Prog
	vars int
	room int
}

func (m *maker) expr(levels int) api.Expr {
	m.room--
	kind := 1 + m.Intn(4)
	if levels <= 1 || m.room < 4 {
		kind = 1 + m.Intn(2)
	}
	switch api.ExprKind(kind) {
	case api.EVar:
		if m.vars > 0 {
			return vr(m.Intn(m.vars))
		}
	case api.EBin:
		return bin(api.ADD+api.Op(m.Intn(12)), m.expr(levels-1), m.expr(levels-1))
	case api.ELoad:
		return load(m.expr(levels - 1))
	}
	return con([]uint64{0, 1, uint64(m.Intn(1000)), m.Uint64(), math.MaxUint64}[m.Intn(5)])
}

func (m *maker) stmt(levels int) api.Stmt {
	m.room--
	kind := api.StmtKind(1 + m.Intn(9))
	if m.vars == 0 && stmtAsks()[kind].name("V") || kind == api.SCall && len(m.p.Funcs) == 0 {
		kind = api.SReturn
	}
	s := api.Stmt{Kind: kind}
	if stmtAsks()[kind].name("V") {
		s.V = m.Intn(m.vars)
	}
	args := stmtAsks()[kind].parts
	if kind == api.SCall {
		s.F = m.Intn(len(m.p.Funcs))
		args = m.p.Funcs[s.F].Params
	}
	if kind == api.SHash {
		s.Tag = m.Intn(257)
	}
	for range args {
		s.Args = append(s.Args, m.expr(8))
	}
	if stmtAsks()[kind].name("Then") && levels > 1 {
		s.Then = m.stmts(levels - 1)
	}
	if stmtAsks()[kind].name("Else") && levels > 1 {
		s.Else = m.stmts(levels - 1)
	}
	return s
}

func (m *maker) stmts(levels int) []api.Stmt {
	var l []api.Stmt
	for range m.Intn(4) {
		if m.room > 0 {
			l = append(l, m.stmt(levels))
		}
	}
	return l
}

// made is a program at random.
func made(r *rand.Rand) api.Prog {
	m := &maker{Rand: r, room: 1 + r.Intn(300)}
	m.p.Data = r.Intn(1025)
	for range 1 + r.Intn(5) {
		f := api.Func{Vars: r.Intn(6)}
		f.Params = r.Intn(f.Vars + 1)
		m.vars = f.Vars
		f.Body = m.stmts(8)
		m.p.Funcs = append(m.p.Funcs, f)
	}
	m.p.Funcs[len(m.p.Funcs)-1].Params = 0
	return m.p
}

// P13.1, P13.2: programs at random, and what each is turned to.
func TestRandomPrograms(t *testing.T) {
	r := rand.New(rand.NewSource(13))
	last := of(0)
	for i := range 500 {
		p := made(r)
		wantMay(t, fmt.Sprint("the program ", i), p)
		wantPair(t, p, last)
		if n, _ := Nodes(p); n <= 40 {
			all := turned(p)
			for range 60 {
				q := all[r.Intn(len(all))]
				wantPair(t, p, q)
				wantJudged(t, q)
			}
		}
		last = p
	}
}

// drawn draws numbers from bytes.
type drawn struct{ b []byte }

func (d *drawn) next() int {
	if len(d.b) == 0 {
		return 0
	}
	n := int(d.b[0])
	d.b = d.b[1:]
	return n
}

// number is one about an edge.
func (d *drawn) number() int {
	switch n := d.next(); {
	case n >= 250:
		return []int{-1, 64, 65, 256, 257, most}[n-250]
	default:
		return n % 8
	}
}

func (d *drawn) exprs(count int) []api.Expr {
	var l []api.Expr
	for range count {
		x := api.Expr{}
		switch n := d.next(); n % 8 {
		case 0, 1:
			x = con(uint64(n / 8))
		case 2, 3:
			x = vr(d.number())
		case 4:
			x = bin(api.Op(n/8), con(0), con(0))
			x.L = d.exprs(2)
		case 5:
			x = api.Expr{Kind: api.ELoad, L: d.exprs(1)}
		case 6:
			x = api.Expr{Kind: api.EBin, Op: api.ADD, L: d.exprs(2)}
		default:
			x = api.Expr{Kind: api.ExprKind(d.next() % 6), N: uint64(d.number()), V: d.number(), Op: api.Op(d.next() % 20)}
			if len(d.b) > 0 {
				x.L = d.exprs(d.next() % 4)
			}
		}
		l = append(l, x)
	}
	return l
}

func (d *drawn) stmts(count int) []api.Stmt {
	var l []api.Stmt
	for range count {
		n := d.next()
		s := api.Stmt{Kind: api.StmtKind(n % 16 % 11)}
		a := stmtAsks()[s.Kind]
		if a.name("V") || n > 240 {
			s.V = d.number()
		}
		if a.name("F") || n > 240 {
			s.F = d.number()
		}
		if a.name("Tag") || n > 240 {
			s.Tag = d.number()
		}
		if s.Kind == api.SCall || n > 240 {
			a.parts = d.next() % 4
		}
		s.Args = d.exprs(a.parts)
		if len(d.b) > 0 && (a.name("Then") || n > 240) {
			s.Then = d.stmts(d.next() % 3)
		}
		if len(d.b) > 0 && (a.name("Else") || n > 240) {
			s.Else = d.stmts(d.next() % 3)
		}
		l = append(l, s)
	}
	return l
}

// P13.1, P13.2: programs drawn from whatever bytes, two at a time.
func FuzzPrograms(f *testing.F) {
	f.Add([]byte{1, 0, 1, 2, 1, 1, 1, 1}, []byte{})
	f.Add([]byte{2, 3, 1, 2, 3, 9, 6, 0, 5, 16, 1, 0, 1, 3, 2, 0, 1, 7, 4, 5}, []byte{1, 2, 3})
	f.Fuzz(func(t *testing.T, x, y []byte) {
		program := func(b []byte) api.Prog {
			d := &drawn{b}
			p := api.Prog{Data: d.number()}
			for range d.next() % 5 {
				p.Funcs = append(p.Funcs, api.Func{Params: d.number(), Vars: d.number(), Body: d.stmts(d.next() % 5)})
			}
			return p
		}
		p, q := program(x), program(y)
		wantJudged(t, p)
		wantJudged(t, q)
		wantPair(t, p, q)
	})
}
