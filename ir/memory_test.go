package ir

import (
	"reflect"
	"slices"
	"testing"

	"proctor/api"
)

// roomy is a list with filled room behind its end.
func roomy[T any](l []T, filler T) []T {
	return append(slices.Clone(l), slices.Repeat([]T{filler}, 5)...)[:len(l)]
}

// loose is a program with filled room behind the end of each list.
func loose(p api.Prog) api.Prog {
	p = twin(p)
	for _, f := range p.Funcs {
		loosen(f.Body)
	}
	for i := range p.Funcs {
		p.Funcs[i].Body = roomy(p.Funcs[i].Body, ret(con(77)))
	}
	p.Funcs = roomy(p.Funcs, api.Func{Vars: 7})
	return p
}

func loosen(list []api.Stmt) {
	for i := range list {
		s := &list[i]
		loosen(s.Then)
		loosen(s.Else)
		s.Then, s.Else = roomy(s.Then, ret(con(78))), roomy(s.Else, ret(con(79)))
		s.Args = loosened(s.Args)
	}
}

func loosened(list []api.Expr) []api.Expr {
	for i := range list {
		list[i].L = loosened(list[i].L)
	}
	return roomy(list, con(80))
}

// whole is a program once more, with the room behind its lists as part of these.
func whole(p api.Prog) api.Prog {
	p.Funcs = slices.Clone(p.Funcs[:cap(p.Funcs)])
	for i := range p.Funcs {
		p.Funcs[i].Body = wholeStmts(p.Funcs[i].Body)
	}
	return p
}

func wholeStmts(list []api.Stmt) []api.Stmt {
	list = slices.Clone(list[:cap(list)])
	for i := range list {
		s := &list[i]
		s.Args, s.Then, s.Else = wholeExprs(s.Args), wholeStmts(s.Then), wholeStmts(s.Else)
	}
	return list
}

func wholeExprs(list []api.Expr) []api.Expr {
	list = slices.Clone(list[:cap(list)])
	for i := range list {
		list[i].L = wholeExprs(list[i].L)
	}
	return list
}

// some are programs that may be, and some that may not, all of them without lists that stand within themselves.
func some() []api.Prog {
	return []api.Prog{sample(), of(0), around(eachStmt()...), around(nests(8)...), {}, of(-1, ret(con(1))), around(nests(9)...), of(1, set(1, con(1))), around(set(0, wells(9)))}
}

// P13.1: programs stay as they were handed in, the room behind their lists too, which is not to be seen.
func TestProgramsStay(t *testing.T) {
	for i, p := range some() {
		want, e := Text(p)
		n, f := Nodes(p)
		q := loose(p)
		kept := whole(q)
		text, g := Text(q)
		m, h := Nodes(q)
		if text != want || g != e || m != n || h != f || May(q) != May(p) {
			t.Errorf("%d: room behind the ends is to be seen", i)
		}
		if may := e == api.OK; Same(p, q) != may || Same(q, p) != may || Same(q, q) != may {
			t.Errorf("%d: room behind the ends is to be seen by Same", i)
		}
		if !reflect.DeepEqual(whole(q), kept) {
			t.Errorf("%d: the program did not stay", i)
		}
	}
}

// P13.1: lists that are too short, but have room in which the rest stands, are too short.
func TestRoomIsNoPart(t *testing.T) {
	for _, s := range eachStmt() {
		if n := len(s.Args); n > 0 {
			s.Args = s.Args[:n-1]
			wantNot(t, "arguments", around(s))
		}
	}
	x := bin(api.ADD, con(1), con(2))
	x.L = x.L[:1]
	wantNot(t, "parts", around(ret(x)))
	p := around(call(0, 1, con(1), con(2)))
	p.Funcs = p.Funcs[2:]
	wantNot(t, "functions", p)
	p.Funcs = p.Funcs[:0]
	wantNot(t, "no functions", p)
}

// P13.1: nothing is kept: a program that is changed between two calls is told as it is then, and what was told stays.
func TestChangedPrograms(t *testing.T) {
	p := sample()
	first, _ := Text(p)
	again, _ := Text(sample())
	p.Funcs[0].Body[0].Args[0].Op = api.DIV
	second, _ := Text(p)
	if first != again || second == first || Same(p, sample()) || !wantJudged(t, p) {
		t.Errorf("%q, %q", first, second)
	}
	p.Funcs[0].Body[0].Args[0].Op = api.NoOp
	wantNot(t, "another Op", p)
	p.Funcs[0].Body[0].Args[0].Op = api.MUL
	if third, _ := Text(p); third != first || !Same(p, sample()) {
		t.Errorf("%q", third)
	}
}
