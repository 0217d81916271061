package ir

import (
	"fmt"
	"math"
	"slices"
	"testing"

	"proctor/api"
)

// The chapter's examples.
func TestExamples(t *testing.T) {
	p := api.Prog{Data: 4, Funcs: []api.Func{
		{Params: 1, Vars: 2, Body: []api.Stmt{set(1, bin(api.ADD, vr(0), con(1))), ret(vr(1))}},
		{Vars: 1, Body: []api.Stmt{call(0, 0, con(7)), store(con(0), vr(0))}},
	}}
	wantMay(t, "the first program", p)
	wantText(t, p, "data 4", "func 1 2", "v1 = ( v0 + 1 )", "return v1", "end", "func 0 1", "v0 = f0 ( 7 )", "[ 0 ] = v0", "end")
	if n, e := Nodes(p); n != 11 || e != api.OK {
		t.Errorf("Nodes = %d, %d", n, e)
	}
	wantNot(t, "no functions", api.Prog{})
	wantNot(t, "a function that calls itself", of(1, call(0, 0)))
	wantNot(t, "a last function with Params", api.Prog{Funcs: []api.Func{{Params: 1, Vars: 1}}})
}

// P13.1: so many functions.
func TestFunctions(t *testing.T) {
	for _, n := range []int{0, 1, 2, 31, 32, 33, 34, 1 << 16} {
		wantIf(t, fmt.Sprint(n, " functions"), n >= 1 && n <= 32, api.Prog{Funcs: make([]api.Func, n)})
	}
}

// P13.1: so many variables and Params, of a function that is the last one or not.
func TestVarsAndParams(t *testing.T) {
	edges := []int{math.MinInt, -1, 0, 1, 2, 63, 64, 65, 66, 1 << 32, most}
	for _, vars := range edges {
		for _, params := range append(edges, 3) {
			may := vars >= 0 && vars <= 64 && params >= 0 && params <= vars
			f := api.Func{Params: params, Vars: vars}
			name := fmt.Sprintf("%d of %d", params, vars)
			wantIf(t, name+", first", may, api.Prog{Funcs: []api.Func{f, {}}})
			wantIf(t, name+", midst", may, api.Prog{Funcs: []api.Func{{}, f, {}}})
			wantIf(t, name+", last", may && params == 0, api.Prog{Funcs: []api.Func{{}, f}})
			wantIf(t, name+", alone", may && params == 0, api.Prog{Funcs: []api.Func{f}})
		}
	}
	for vars := -1; vars <= 66; vars++ {
		for params := -1; params <= 67; params++ {
			wantIf(t, fmt.Sprintf("%d of %d", params, vars), vars >= 0 && vars <= 64 && params >= 0 && params <= vars, api.Prog{Funcs: []api.Func{{Params: params, Vars: vars}, {}}})
		}
	}
}

// P13.1: so many words of data.
func TestData(t *testing.T) {
	for _, n := range []int{math.MinInt, -1024, -1, 0, 1, 512, 1023, 1024, 1025, 1 << 16, 1 << 32, 1<<32 + 1, most} {
		wantIf(t, fmt.Sprint(n, " words"), n >= 0 && n <= 1024, api.Prog{Funcs: make([]api.Func, 1), Data: n})
	}
}

// eachStmt is a statement of each kind that may be in a function with two variables behind a function with one of Params.
func eachStmt() []api.Stmt {
	one := []api.Stmt{ret(con(1))}
	return []api.Stmt{set(1, con(1)), store(con(1), con(2)), fork(con(1), one, one), while(con(1), one...), ret(con(1)), call(1, 0, con(1)), hash(1, con(1), con(2), con(3)), pre(1, con(1), con(2)), plen(1, con(1))}
}

// eachExpr is an expression of each kind that may be in a function with two variables.
func eachExpr() []api.Expr {
	return []api.Expr{con(1), vr(1), bin(api.ADD, con(1), con(2)), load(con(1))}
}

// around is a program whose last function, with two variables, has that body; ahead of it there is one with one of Params, and one with two.
func around(body ...api.Stmt) api.Prog {
	return api.Prog{Funcs: []api.Func{{Params: 1, Vars: 1}, {Params: 2, Vars: 2}, {Vars: 2, Body: body}}}
}

// P13.1: kinds, those that are none too.
func TestKinds(t *testing.T) {
	for i, s := range eachStmt() {
		if int(s.Kind) != i+1 {
			t.Fatalf("the kind %d stands at %d", s.Kind, i)
		}
		wantMay(t, fmt.Sprint("the kind ", s.Kind), around(s))
		for kind := range 256 {
			s.Kind = api.StmtKind(kind)
			if may := wantJudged(t, around(s)); kind == i+1 && !may || may && (kind == 0 || kind > 9) {
				t.Errorf("the kind %d as %d", i+1, kind)
			}
		}
	}
	for i, x := range eachExpr() {
		if int(x.Kind) != i+1 {
			t.Fatalf("the kind %d stands at %d", x.Kind, i)
		}
		wantMay(t, fmt.Sprint("the kind ", x.Kind), around(ret(x)))
		for kind := range 256 {
			x.Kind = api.ExprKind(kind)
			wantIf(t, fmt.Sprintf("the kind %d as %d", i+1, kind), kind == i+1, around(ret(x)))
		}
	}
	wantNot(t, "a zero statement", around(api.Stmt{}))
	wantNot(t, "a zero expression", around(ret(api.Expr{})))
	wantNot(t, "a zero part", around(ret(load(api.Expr{}))))
}

// P13.1: a field that its kind does not name is zero; lists that are empty are as those that are nil.
func TestFieldsThatAreNotNamed(t *testing.T) {
	for _, s := range eachStmt() {
		a := stmtAsks()[s.Kind]
		for _, n := range []int{1, -1, 256, most, math.MinInt} {
			for _, field := range []string{"V", "F", "Tag"} {
				u := s
				*map[string]*int{"V": &u.V, "F": &u.F, "Tag": &u.Tag}[field] = n
				if !a.name(field) {
					wantNot(t, fmt.Sprintf("the kind %d with %s %d", s.Kind, field, n), around(u))
				}
			}
		}
		for _, field := range []string{"Then", "Else"} {
			for _, list := range [][]api.Stmt{nil, {}, make([]api.Stmt, 0, 9), {ret(con(1))}, {ret(con(1)), ret(con(1))}} {
				u := s
				*map[string]*[]api.Stmt{"Then": &u.Then, "Else": &u.Else}[field] = list
				wantIf(t, fmt.Sprintf("the kind %d with %s of %d", s.Kind, field, len(list)), a.name(field) || len(list) == 0, around(u))
			}
		}
	}
	for _, x := range eachExpr() {
		a := exprAsks()[x.Kind]
		for _, n := range []uint64{1, 1 << 32, math.MaxUint64} {
			y := x
			y.N = n
			wantIf(t, fmt.Sprintf("the kind %d with N %d", x.Kind, n), a.name("N"), around(ret(y)))
		}
		for _, v := range []int{1, -1, 256, most, math.MinInt} {
			y := x
			y.V = v
			wantIf(t, fmt.Sprintf("the kind %d with V %d", x.Kind, v), a.name("V") && v == 1, around(ret(y)))
		}
		for op := range 256 {
			y := x
			y.Op = api.Op(op)
			may := op == 0 && !a.name("Op") || op >= int(api.ADD) && op <= int(api.EQ) && a.name("Op")
			wantIf(t, fmt.Sprintf("the kind %d with Op %d", x.Kind, op), may, around(ret(y)))
		}
	}
}

// P13.1: lists of parts that are too short or too long, of as many as there can be.
func TestCountsOfParts(t *testing.T) {
	for _, s := range eachStmt() {
		right := len(s.Args)
		for n := range 70 {
			s.Args = slices.Repeat([]api.Expr{con(1)}, n)
			wantIf(t, fmt.Sprintf("the kind %d with %d parts", s.Kind, n), n == right, around(s))
		}
		s.Args = nil
		wantNot(t, "nil", around(s))
	}
	for _, x := range eachExpr() {
		right := len(x.L)
		for n := range 9 {
			x.L = slices.Repeat([]api.Expr{con(1)}, n)
			wantIf(t, fmt.Sprintf("the kind %d with %d parts", x.Kind, n), n == right, around(ret(x)))
		}
		x.L = make([]api.Expr, 0, 3)
		wantIf(t, "room alone", right == 0, around(ret(x)))
	}
}

// P13.1: variables' numbers, where they are set and where they are asked for, of functions of each number of variables.
func TestVariables(t *testing.T) {
	for _, vars := range []int{0, 1, 2, 63, 64} {
		for _, v := range []int{math.MinInt, -1, 0, 1, vars - 1, vars, vars + 1, 64, 1 << 32, most} {
			may := v >= 0 && v < vars
			name := fmt.Sprintf("v%d of %d", v, vars)
			for _, s := range []api.Stmt{ret(vr(v)), ret(load(vr(v))), set(v, con(1)), call(v, 0), pre(v, con(1), con(2)), plen(v, con(1)), fork(vr(v), nil, nil), while(vr(v)), store(con(0), vr(v)), hash(0, con(1), con(1), vr(v)), fork(con(1), nil, []api.Stmt{set(v, con(1))}), fork(con(1), []api.Stmt{ret(vr(v))}, nil)} {
				p := api.Prog{Funcs: []api.Func{{Vars: 64}, {Vars: vars, Body: []api.Stmt{s}}}}
				wantIf(t, fmt.Sprintf("%s, the kind %d", name, s.Kind), may, p)
			}
			early := api.Prog{Funcs: []api.Func{{Vars: vars, Params: vars, Body: []api.Stmt{set(v, vr(v))}}, {Vars: 64}}}
			wantIf(t, name+", a function of Params alone", may, early)
		}
	}
}

// P13.1: calls of functions ahead, of the function itself, of later ones, and of none, with as many arguments as there can be.
func TestCalls(t *testing.T) {
	params := []int{0, 1, 3, 64, 2, 0}
	for own := range params {
		for _, f := range []int{math.MinInt, -1, 0, 1, 2, 3, 4, 5, 6, 32, 1 << 32, most} {
			for _, args := range []int{0, 1, 2, 3, 4, 63, 64, 65} {
				p := api.Prog{}
				for _, n := range params {
					p.Funcs = append(p.Funcs, api.Func{Params: n, Vars: 64})
				}
				p.Funcs[own].Body = []api.Stmt{call(0, f, slices.Repeat([]api.Expr{vr(63)}, args)...)}
				wantIf(t, fmt.Sprintf("f%d calls f%d with %d", own, f, args), f >= 0 && f < own && args == params[f], p)
			}
		}
	}
	wantNot(t, "a call of itself, within Then", around(while(con(1), call(0, 2))))
	wantMay(t, "a call within Else", around(fork(con(1), nil, []api.Stmt{call(0, 1, con(1), vr(1))})))
}

// P13.1: Tags.
func TestTags(t *testing.T) {
	for tag := -3; tag < 260; tag++ {
		wantIf(t, fmt.Sprint("the Tag ", tag), tag >= 0 && tag <= 256, of(0, hash(tag, con(1), con(2), con(3))))
	}
	for _, tag := range []int{math.MinInt, 512, 1 << 32, 1<<32 + 1, most} {
		wantNot(t, fmt.Sprint("the Tag ", tag), of(0, hash(tag, con(1), con(2), con(3))))
	}
}

// deep is an expression so many levels deep; right says whether its depth is to the right.
func deep(levels int, right bool) api.Expr {
	x := con(7)
	for range levels - 1 {
		if right {
			x = bin(api.SUB, vr(0), x)
		} else {
			x = bin(api.SUB, x, vr(0))
		}
	}
	return x
}

// wells is an expression so many levels deep of one part each.
func wells(levels int) api.Expr {
	x := vr(0)
	for range levels - 1 {
		x = load(x)
	}
	return x
}

// nests are statements so many levels deep: by while, by Then, by Else.
func nests(levels int) []api.Stmt {
	l := []api.Stmt{ret(con(1)), ret(con(1)), ret(con(1)), while(con(1)), fork(con(1), nil, nil)}
	flat := []api.Stmt{ret(con(1)), ret(con(1))}
	for range levels - 1 {
		l = []api.Stmt{
			while(con(1), ret(con(1)), l[0]),
			fork(con(1), []api.Stmt{l[1]}, flat),
			fork(con(1), flat, []api.Stmt{flat[0], l[2], flat[1]}),
			while(con(1), l[3], l[3]),
			fork(con(1), nil, []api.Stmt{l[4]}),
		}
	}
	return l
}

// P13.1: expressions and statements that are nested, wherever they stand: the depth of an expression is not its statement's.
func TestNesting(t *testing.T) {
	for levels := 1; levels <= 20; levels++ {
		may := levels <= 8
		for i, x := range []api.Expr{deep(levels, false), deep(levels, true), wells(levels)} {
			for _, s := range []api.Stmt{set(0, x), store(x, con(1)), store(con(1), x), ret(x), fork(x, nil, nil), fork(con(1), []api.Stmt{ret(x)}, nil), fork(con(1), nil, []api.Stmt{ret(x)}), while(x), while(con(1), while(x)), call(0, 0, x), call(0, 1, con(1), x), hash(1, x, x, x), pre(0, con(1), x), plen(0, x)} {
				wantIf(t, fmt.Sprintf("an expression %d deep (%d) in the kind %d", levels, i, s.Kind), may, around(s))
			}
		}
		if levels > 12 {
			continue
		}
		for i, s := range nests(levels) {
			wantIf(t, fmt.Sprintf("a statement %d deep (%d)", levels, i), may, around(s))
			wantIf(t, fmt.Sprintf("a statement %d deep (%d) among others", levels, i), may, around(ret(con(1)), s, ret(con(1))))
		}
	}
	s := ret(deep(8, true))
	for range 7 {
		s = fork(deep(8, false), []api.Stmt{s}, []api.Stmt{plen(1, wells(8))})
	}
	wantMay(t, "both 8 deep", around(s))
	wantNot(t, "one more", around(while(con(1), s)))
	wantMay(t, "deep beside flat", around(s, ret(con(1)), set(1, wells(8))))
}

// P13.1: as many statements and expressions as there may be, and one more, in one function and over many.
func TestNodes(t *testing.T) {
	for _, n := range []int{0, 1, 2, 3, 2047, 2048, 2049, 4096} {
		p := of(1, slices.Repeat([]api.Stmt{ret(con(1))}, n)...)
		wantIf(t, fmt.Sprint(n, " statements"), n <= 2048, p)
		if got, e := Nodes(p); e == api.OK && got != 2*n {
			t.Errorf("Nodes = %d, want %d", got, 2*n)
		}
	}
	even := slices.Repeat([]api.Stmt{ret(con(1))}, 2048)
	odd := append(slices.Clone(even[:2047]), api.Stmt{Kind: api.SCall})
	for i, c := range []struct {
		body []api.Stmt
		want int
	}{
		{even, 4096}, {odd, 4095}, {append(slices.Clone(odd), odd[2047]), 4096}, {append(slices.Clone(odd), odd[2047], odd[2047]), 0}, {append(slices.Clone(odd), ret(con(1))), 0},
		{append(slices.Clone(even[:2046]), ret(load(con(1)))), 4095}, {append(slices.Clone(even[:2046]), ret(bin(api.ADD, con(1), con(1)))), 4096}, {append(slices.Clone(even[:2046]), ret(bin(api.ADD, load(con(1)), con(1)))), 0},
		{append(slices.Clone(even[:2045]), while(con(1), even[:2]...)), 4096}, {append(slices.Clone(even[:2045]), while(con(1), even[:3]...)), 0},
		{[]api.Stmt{while(con(1), even[:2047]...)}, 4096}, {[]api.Stmt{while(con(1), even...)}, 0}, {[]api.Stmt{fork(con(1), even[:1000], even[:1047])}, 4096}, {[]api.Stmt{fork(con(1), even[:1000], even[:1048])}, 0},
		{slices.Repeat([]api.Stmt{{Kind: api.SCall}}, 4096), 4096}, {slices.Repeat([]api.Stmt{{Kind: api.SCall}}, 4097), 0},
	} {
		p := api.Prog{Funcs: []api.Func{{}, {Vars: 1, Body: c.body}}}
		n, e := Nodes(p)
		wantIf(t, fmt.Sprint("the body ", i), c.want > 0, p)
		if n != c.want || (e == api.OK) != (c.want > 0) {
			t.Errorf("%d: Nodes = %d, %d, want %d", i, n, e, c.want)
		}
	}
	for _, more := range []int{0, 1, 2} {
		p := api.Prog{}
		for range 32 {
			p.Funcs = append(p.Funcs, api.Func{Vars: 1, Body: even[:64]})
		}
		wantMay(t, "over many functions", p)
		for _, at := range []int{1, 15, 31} {
			q := twin(p)
			q.Funcs[at].Body = append(q.Funcs[at].Body, slices.Repeat([]api.Stmt{call(0, 0)}, more)...)
			wantIf(t, fmt.Sprint("over many functions, and ", more), more == 0, q)
		}
	}
}

// P13.1: lists that stand within themselves are looked at no further than the limits say.
func TestListsWithinThemselves(t *testing.T) {
	for _, n := range []int{1, 2, 3, 100, 1 << 16} {
		list := make([]api.Stmt, n)
		for i := range list {
			list[i] = while(con(1), list...)
		}
		wantNot(t, fmt.Sprint("Then, ", n), around(list...))
		wantNot(t, fmt.Sprint("Then, within, ", n), around(fork(con(1), nil, list)))
		for i := range list {
			list[i] = fork(con(1), nil, list)
		}
		wantNot(t, fmt.Sprint("Else, ", n), around(list[0]))
		for i := range list {
			list[i] = fork(con(1), list, list)
		}
		wantNot(t, fmt.Sprint("both, ", n), around(list...))
		flat := slices.Repeat([]api.Stmt{ret(con(1))}, n)
		flat[n-1] = while(con(1), flat...)
		wantNot(t, fmt.Sprint("the last one, ", n), around(flat...))
	}
	one := []api.Expr{{Kind: api.ELoad}}
	one[0].L = one
	two := []api.Expr{{Kind: api.EBin, Op: api.ADD}, {Kind: api.EBin, Op: api.MUL}}
	two[0].L, two[1].L = two, two
	mixed := []api.Expr{con(1), {Kind: api.EBin, Op: api.ADD}}
	mixed[1].L = mixed
	round := []api.Expr{{Kind: api.ELoad}}
	round[0].L = []api.Expr{{Kind: api.ELoad, L: round}}
	many := slices.Repeat([]api.Expr{{Kind: api.ELoad}}, 1<<16)
	for i := range many {
		many[i].L = many
	}
	for i, x := range []api.Expr{one[0], two[0], two[1], mixed[1], round[0], many[0]} {
		for _, s := range []api.Stmt{ret(x), set(0, x), fork(x, nil, nil), while(x), call(0, 0, x), hash(0, con(1), con(1), x)} {
			wantNot(t, fmt.Sprintf("the expression %d in the kind %d", i, s.Kind), around(s))
		}
	}
	wantNot(t, "the arguments", around(call(0, 1, two...)))
	// A condition that is the list of a statement that holds it, with a body that holds itself: both at once.
	both := []api.Stmt{while(two[0])}
	both[0].Then = both
	wantNot(t, "both kinds", around(both...))
}

// P13.1: one list in many places stands within none: each place counts.
func TestSharedLists(t *testing.T) {
	s := []api.Stmt{ret(con(1)), ret(con(1))}
	p := around(fork(con(1), s, s), while(con(1), s...))
	wantMay(t, "shared", p)
	if n, _ := Nodes(p); n != 16 {
		t.Errorf("Nodes = %d", n)
	}
	for range 7 {
		s = []api.Stmt{fork(con(1), s, s)}
	}
	wantMay(t, "7 halvings", around(s...))
	wantNot(t, "9 levels", around(fork(con(1), s, nil)))
	x := con(1)
	for range 7 {
		x = bin(api.ADD, x, x)
	}
	wantMay(t, "16 times 255 nodes", around(slices.Repeat([]api.Stmt{ret(x)}, 16)...))
	wantNot(t, "17 times 255 nodes", around(slices.Repeat([]api.Stmt{ret(x)}, 17)...))
}

// P13.1: lists that are far longer than any program's are no trouble.
func TestLongLists(t *testing.T) {
	long := slices.Repeat([]api.Stmt{ret(con(1))}, 1<<18)
	exprs := slices.Repeat([]api.Expr{con(1)}, 1<<18)
	wantNot(t, "a long body", around(long...))
	wantNot(t, "a long Then", around(while(con(1), long...)))
	wantNot(t, "a long Else", around(fork(con(1), nil, long)))
	wantNot(t, "many arguments", around(call(0, 0, exprs...)))
	wantNot(t, "many parts", around(ret(api.Expr{Kind: api.EBin, Op: api.ADD, L: exprs})))
	wantNot(t, "no statements", around(make([]api.Stmt, 1<<18)...))
	wantNot(t, "many functions", api.Prog{Funcs: slices.Repeat([]api.Func{{Body: long}}, 1<<16)})
}
