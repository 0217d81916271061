package ir

import (
	"math"
	"reflect"
	"slices"
	"strconv"
	"strings"
	"testing"

	"proctor/api"
)

// The second judge: the chapter's tables as tables, trees gone through level by level by lists of what is still to be looked at, and a reader of texts that comes back to the program.

const most = math.MaxInt

// Short forms of what programs are made of.

func con(n uint64) api.Expr    { return api.Expr{Kind: api.EConst, N: n} }
func vr(v int) api.Expr        { return api.Expr{Kind: api.EVar, V: v} }
func load(x api.Expr) api.Expr { return api.Expr{Kind: api.ELoad, L: []api.Expr{x}} }

func bin(op api.Op, x, y api.Expr) api.Expr {
	return api.Expr{Kind: api.EBin, Op: op, L: []api.Expr{x, y}}
}

func set(v int, x api.Expr) api.Stmt {
	return api.Stmt{Kind: api.SSet, V: v, Args: []api.Expr{x}}
}

func store(x, y api.Expr) api.Stmt {
	return api.Stmt{Kind: api.SStore, Args: []api.Expr{x, y}}
}

func fork(x api.Expr, then, other []api.Stmt) api.Stmt {
	return api.Stmt{Kind: api.SIf, Args: []api.Expr{x}, Then: then, Else: other}
}

func while(x api.Expr, then ...api.Stmt) api.Stmt {
	return api.Stmt{Kind: api.SWhile, Args: []api.Expr{x}, Then: then}
}

func ret(x api.Expr) api.Stmt { return api.Stmt{Kind: api.SReturn, Args: []api.Expr{x}} }

func call(v, f int, args ...api.Expr) api.Stmt {
	return api.Stmt{Kind: api.SCall, V: v, F: f, Args: args}
}

func hash(tag int, x, y, z api.Expr) api.Stmt {
	return api.Stmt{Kind: api.SHash, Tag: tag, Args: []api.Expr{x, y, z}}
}

func pre(v int, x, y api.Expr) api.Stmt {
	return api.Stmt{Kind: api.SPre, V: v, Args: []api.Expr{x, y}}
}

func plen(v int, x api.Expr) api.Stmt {
	return api.Stmt{Kind: api.SPlen, V: v, Args: []api.Expr{x}}
}

// of is a program of one function without Params.
func of(vars int, body ...api.Stmt) api.Prog {
	return api.Prog{Funcs: []api.Func{{Vars: vars, Body: body}}}
}

// sample is a program that has each kind of statement and of expression.
func sample() api.Prog {
	return api.Prog{Data: 9, Funcs: []api.Func{
		{Params: 2, Vars: 3, Body: []api.Stmt{
			set(2, bin(api.MUL, vr(0), load(con(5)))),
			fork(vr(1), []api.Stmt{store(con(1), vr(2)), while(bin(api.LTU, vr(0), con(7)), ret(con(math.MaxUint64)))}, []api.Stmt{plen(0, con(2))}),
		}},
		{Vars: 1},
		{Vars: 4, Body: []api.Stmt{
			call(3, 0, vr(1), bin(api.EQ, con(0), vr(2))),
			call(2, 1),
			hash(256, con(1), vr(1), con(32)),
			pre(1, load(vr(3)), con(8)),
			fork(con(1), nil, nil),
			while(con(0)),
			hash(0, con(0), con(4), con(8)),
		}},
	}}
}

// asks says of a kind of statement, or of expression, how many parts it has (of a call as many as the function wants), and which fields it names beside these.
type asks struct {
	parts int
	names string
}

func stmtAsks() map[api.StmtKind]asks {
	return map[api.StmtKind]asks{
		api.SSet: {1, "V"}, api.SStore: {2, ""}, api.SIf: {1, "Then Else"}, api.SWhile: {1, "Then"}, api.SReturn: {1, ""},
		api.SCall: {0, "V F"}, api.SHash: {3, "Tag"}, api.SPre: {2, "V"}, api.SPlen: {1, "V"},
	}
}

func exprAsks() map[api.ExprKind]asks {
	return map[api.ExprKind]asks{api.EConst: {0, "N"}, api.EVar: {0, "V"}, api.EBin: {2, "Op"}, api.ELoad: {1, ""}}
}

func (a asks) name(field string) bool { return slices.Contains(strings.Fields(a.names), field) }

func between(n, least, greatest int) bool { return n >= least && n <= greatest }

// stmtBy says whether a statement may be in the function i, but for its parts.
func stmtBy(p api.Prog, i int, s api.Stmt) bool {
	a, is := stmtAsks()[s.Kind]
	if !is {
		return false
	}
	least := map[string]int{"V": 0, "F": 0, "Tag": 0}
	greatest := map[string]int{"V": p.Funcs[i].Vars - 1, "F": i - 1, "Tag": 256}
	for field, n := range map[string]int{"V": s.V, "F": s.F, "Tag": s.Tag} {
		if a.name(field) && !between(n, least[field], greatest[field]) || !a.name(field) && n != 0 {
			return false
		}
	}
	if s.Kind == api.SCall {
		a.parts = p.Funcs[s.F].Params
	}
	return len(s.Args) == a.parts && (len(s.Then) == 0 || a.name("Then")) && (len(s.Else) == 0 || a.name("Else"))
}

// exprBy says whether an expression may be in the function i, but for its parts.
func exprBy(p api.Prog, i int, x api.Expr) bool {
	a, is := exprAsks()[x.Kind]
	if !is || len(x.L) != a.parts || x.N != 0 && !a.name("N") {
		return false
	}
	if a.name("V") && !between(x.V, 0, p.Funcs[i].Vars-1) || !a.name("V") && x.V != 0 {
		return false
	}
	return a.name("Op") && strings.Contains(" 5 6 7 8 9 10 11 12 13 14 15 16 ", " "+strconv.Itoa(int(x.Op))+" ") || !a.name("Op") && x.Op == 0
}

// nodesBy is how many nodes a program has; false, if it may not be.
func nodesBy(p api.Prog) (int, bool) {
	if !between(len(p.Funcs), 1, 32) || !between(p.Data, 0, 1024) {
		return 0, false
	}
	count := 0
	for i, f := range p.Funcs {
		if !between(f.Vars, 0, 64) || !between(f.Params, 0, f.Vars) || i == len(p.Funcs)-1 && f.Params != 0 {
			return 0, false
		}
		level := f.Body
		for depth := 1; len(level) > 0; depth++ {
			var below []api.Stmt
			for _, s := range level {
				n, ok := exprsBy(p, i, s.Args, 4096-count)
				count += 1 + n
				if !ok || count > 4096 || depth > 8 || !stmtBy(p, i, s) {
					return 0, false
				}
				if len(s.Then) > 4096 || len(s.Else) > 4096 || len(below) > 4096 {
					return 0, false
				}
				below = append(append(below, s.Then...), s.Else...)
			}
			level = below
		}
	}
	return count, true
}

// exprsBy is how many expressions a list has, parts and all; false, if one may not be, or they are far too many.
func exprsBy(p api.Prog, i int, level []api.Expr, room int) (int, bool) {
	count := 0
	for depth := 1; len(level) > 0; depth++ {
		if count += len(level); count > room || depth > 8 {
			return 0, false
		}
		var below []api.Expr
		for _, x := range level {
			if !exprBy(p, i, x) {
				return 0, false
			}
			below = append(below, x.L...)
		}
		level = below
	}
	return count, true
}

// reader reads a text's lines, word by word. What is wrong leaves by a panic with a text.
type reader struct {
	lines []string
	words []string
}

// readBy is the program that has a text.
func readBy(text string) (p api.Prog, wrong any) {
	defer func() {
		if wrong = recover(); wrong != nil {
			p = api.Prog{}
		}
	}()
	whole, ok := strings.CutSuffix(text, "\n")
	if !ok {
		panic("no line end")
	}
	r := &reader{lines: strings.Split(whole, "\n")}
	r.line()
	r.want("data")
	p.Data = int(r.number())
	for r.end(); len(r.lines) > 0; r.end() {
		r.line()
		r.want("func")
		f := api.Func{Params: int(r.number()), Vars: int(r.number())}
		r.end()
		f.Body = r.stmts("end")
		p.Funcs = append(p.Funcs, f)
	}
	return p, nil
}

func (r *reader) line() {
	if len(r.lines) == 0 {
		panic("no line left")
	}
	r.words, r.lines = strings.Split(r.lines[0], " "), r.lines[1:]
}

func (r *reader) end() {
	if len(r.words) > 0 {
		panic("words left: " + strings.Join(r.words, " "))
	}
}

func (r *reader) word() string {
	if len(r.words) == 0 {
		panic("no word left")
	}
	w := r.words[0]
	r.words = r.words[1:]
	return w
}

func (r *reader) want(word string) {
	if w := r.word(); w != word {
		panic(w + " in the place of " + word)
	}
}

func (r *reader) isNext(word string) bool { return len(r.words) > 0 && r.words[0] == word }

func (r *reader) number() uint64 { return numberBy(r.word()) }

func numberBy(word string) uint64 {
	n, err := strconv.ParseUint(word, 10, 64)
	if err != nil || strconv.FormatUint(n, 10) != word {
		panic(word + " is no number")
	}
	return n
}

// numbered is the number behind a letter.
func (r *reader) numbered(letter string) int {
	w := r.word()
	digits, ok := strings.CutPrefix(w, letter)
	if !ok {
		panic(w + " in the place of " + letter)
	}
	return int(numberBy(digits))
}

// stmts are the statements up to a line of one word.
func (r *reader) stmts(last string) []api.Stmt {
	var l []api.Stmt
	for {
		r.line()
		if r.isNext(last) {
			r.word()
			r.end()
			return l
		}
		l = append(l, r.stmt())
	}
}

func (r *reader) stmt() api.Stmt {
	var s api.Stmt
	switch r.words[0] {
	case "if":
		r.word()
		s = fork(r.exprs(1)[0], nil, nil)
		s.Then = r.stmts("else")
		s.Else = r.stmts("end")
	case "while":
		r.word()
		s = while(r.exprs(1)[0])
		s.Then = r.stmts("end")
	case "return":
		r.word()
		s = ret(r.exprs(1)[0])
	case "hash":
		r.word()
		s = api.Stmt{Kind: api.SHash, Tag: int(r.number()), Args: r.exprs(3)}
	case "[":
		r.word()
		x := r.expr()
		r.want("]")
		r.want("=")
		s = store(x, r.exprs(1)[0])
	default:
		s = r.setting()
	}
	return s
}

// setting is a statement that sets a variable.
func (r *reader) setting() api.Stmt {
	s := api.Stmt{Kind: api.SSet, V: r.numbered("v")}
	r.want("=")
	switch {
	case r.isNext("pre"):
		r.word()
		s.Kind, s.Args = api.SPre, r.exprs(2)
	case r.isNext("plen"):
		r.word()
		s.Kind, s.Args = api.SPlen, r.exprs(1)
	case len(r.words) > 0 && strings.HasPrefix(r.words[0], "f"):
		s.Kind, s.F = api.SCall, r.numbered("f")
		r.want("(")
		for !r.isNext(")") {
			if len(s.Args) > 0 {
				r.want(",")
			}
			s.Args = append(s.Args, r.expr())
		}
		r.word()
		r.end()
	default:
		s.Args = r.exprs(1)
	}
	return s
}

// exprs are so many expressions, with which a line ends.
func (r *reader) exprs(n int) []api.Expr {
	var l []api.Expr
	for range n {
		l = append(l, r.expr())
	}
	r.end()
	return l
}

// opBy is the Op with a sign.
func opBy(sign string) api.Op {
	ops := map[string]api.Op{"+": api.ADD, "-": api.SUB, "*": api.MUL, "/": api.DIV, "%": api.REM, "&": api.AND, "!": api.OR, "^": api.XOR, "<<": api.SHL, ">>": api.SHR, "<": api.LTU, "==": api.EQ}
	if ops[sign] == 0 {
		panic(sign + " is no sign")
	}
	return ops[sign]
}

func (r *reader) expr() api.Expr {
	switch {
	case r.isNext("("):
		r.word()
		x := r.expr()
		op := opBy(r.word())
		y := r.expr()
		r.want(")")
		return bin(op, x, y)
	case r.isNext("["):
		r.word()
		x := r.expr()
		r.want("]")
		return load(x)
	case len(r.words) > 0 && strings.HasPrefix(r.words[0], "v"):
		return vr(r.numbered("v"))
	}
	return con(r.number())
}

// twin is a program once more, in memory of its own, its empty lists nil.
func twin(p api.Prog) api.Prog {
	q := api.Prog{Data: p.Data}
	for _, f := range p.Funcs {
		f.Body = twinStmts(f.Body)
		q.Funcs = append(q.Funcs, f)
	}
	return q
}

func twinStmts(list []api.Stmt) []api.Stmt {
	var l []api.Stmt
	for _, s := range list {
		s.Args, s.Then, s.Else = twinExprs(s.Args), twinStmts(s.Then), twinStmts(s.Else)
		l = append(l, s)
	}
	return l
}

func twinExprs(list []api.Expr) []api.Expr {
	var l []api.Expr
	for _, x := range list {
		x.L = twinExprs(x.L)
		l = append(l, x)
	}
	return l
}

// alike says whether two programs are the same, nil and empty lists alike.
func alike(p, q api.Prog) bool { return reflect.DeepEqual(twin(p), twin(q)) }

// wantJudged holds all that is told of a program against the judge, and is whether it may be.
func wantJudged(t *testing.T, p api.Prog) bool {
	t.Helper()
	want, may := nodesBy(p)
	n, e := Nodes(p)
	text, f := Text(p)
	if May(p) != may || Same(p, p) != may {
		t.Fatalf("May = %v, Same with itself = %v, want %v: %.300q", May(p), Same(p, p), may, text)
	}
	if !may {
		if n != 0 || e != api.ErrArg || text != "" || f != api.ErrArg {
			t.Fatalf("Nodes = %d, %d, Text = %.300q, %d", n, e, text, f)
		}
		if Same(p, of(0)) || Same(of(0), p) {
			t.Fatal("the same as a program that may be")
		}
		return false
	}
	if n != want || e != api.OK || f != api.OK {
		t.Fatalf("Nodes = %d, %d, want %d; Text: %d", n, e, want, f)
	}
	q, wrong := readBy(text)
	if wrong != nil || !alike(p, q) {
		t.Fatalf("%.300q reads as another program: %v", text, wrong)
	}
	if !Same(p, q) || !Same(q, p) || !Same(p, twin(p)) {
		t.Fatalf("%.300q: not the same as its twin", text)
	}
	return true
}

// wantMay asks that a program may be, wantNot that it may not.
func wantMay(t *testing.T, name string, p api.Prog) {
	t.Helper()
	if !wantJudged(t, p) {
		t.Errorf("%s: may not be", name)
	}
}

func wantNot(t *testing.T, name string, p api.Prog) {
	t.Helper()
	if wantJudged(t, p) {
		t.Errorf("%s: may be", name)
	}
}

// wantIf asks for one of the two.
func wantIf(t *testing.T, name string, may bool, p api.Prog) {
	t.Helper()
	if wantJudged(t, p) != may {
		t.Errorf("%s: may be or not", name)
	}
}
