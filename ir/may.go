package ir

import "proctor/api"

// maxTag is a SHash's Tag that stands for none.
const maxTag = 256

// nodes is how many statements and expressions a program has; false, if it may not be.
func nodes(p api.Prog) (int, bool) {
	if !mayBegin(p) {
		return 0, false
	}
	left := api.MaxNodes
	for i, f := range p.Funcs {
		if f.Vars < 0 || f.Vars > api.MaxVars || f.Params < 0 || f.Params > f.Vars {
			return 0, false
		}
		in := scope{earlier: p.Funcs[:i], vars: f.Vars}
		rest, ok := in.stmts(f.Body, api.MaxNest, left)
		if !ok {
			return 0, false
		}
		left = rest
	}
	return api.MaxNodes - left, true
}

// mayBegin says whether a program has as many functions and data as it may have, and a last function that nobody has to hand anything.
func mayBegin(p api.Prog) bool {
	last := len(p.Funcs) - 1
	return last >= 0 && last < api.MaxFuncs && p.Funcs[last].Params == 0 && p.Data >= 0 && p.Data <= api.MaxData
}

// scope is what a function's statements may name: the functions ahead of it, and so many variables.
// Its methods go through trees. They are told how many levels, and how many nodes are left, and tell how many nodes are left behind them; false, if something may not be, or there are too many: so they come to an end even if a list stands within itself.
type scope struct {
	earlier []api.Func
	vars    int
}

// counted is how many nodes are left behind all parts of a list, each of which needs some of them.
func counted[T any](parts []T, left int, need func(part T, left int) (int, bool)) (int, bool) {
	for _, part := range parts {
		rest, ok := need(part, left)
		if !ok {
			return 0, false
		}
		left = rest
	}
	return left, true
}

func (in scope) stmts(list []api.Stmt, levels, left int) (int, bool) {
	return counted(list, left, func(s api.Stmt, left int) (int, bool) {
		return in.stmt(s, levels, left)
	})
}

func (in scope) stmt(s api.Stmt, levels, left int) (int, bool) {
	if levels == 0 || left == 0 || !in.mayStmt(s) {
		return 0, false
	}
	left, ok := in.exprs(s.Args, api.MaxNest, left-1)
	if !ok {
		return 0, false
	}
	left, ok = in.stmts(s.Then, levels-1, left)
	if !ok {
		return 0, false
	}
	return in.stmts(s.Else, levels-1, left)
}

func (in scope) exprs(list []api.Expr, levels, left int) (int, bool) {
	return counted(list, left, func(x api.Expr, left int) (int, bool) {
		return in.expr(x, levels, left)
	})
}

func (in scope) expr(x api.Expr, levels, left int) (int, bool) {
	if levels == 0 || left == 0 || !in.mayExpr(x) {
		return 0, false
	}
	return in.exprs(x.L, levels-1, left-1)
}

// mayStmt says whether a statement has what its kind asks, and nothing else, but for what its parts have.
func (in scope) mayStmt(s api.Stmt) bool {
	args := len(s.Args)
	flat := len(s.Then) == 0 && len(s.Else) == 0
	switch s.Kind {
	case api.SSet, api.SPlen:
		return in.has(s.V) && args == 1 && s.F == 0 && s.Tag == 0 && flat
	case api.SStore:
		return args == 2 && s.V == 0 && s.F == 0 && s.Tag == 0 && flat
	case api.SIf:
		return args == 1 && s.V == 0 && s.F == 0 && s.Tag == 0
	case api.SWhile:
		return args == 1 && s.V == 0 && s.F == 0 && s.Tag == 0 && len(s.Else) == 0
	case api.SReturn:
		return args == 1 && s.V == 0 && s.F == 0 && s.Tag == 0 && flat
	case api.SCall:
		return in.has(s.V) && in.takes(s.F, args) && s.Tag == 0 && flat
	case api.SHash:
		return s.Tag >= 0 && s.Tag <= maxTag && args == 3 && s.V == 0 && s.F == 0 && flat
	case api.SPre:
		return in.has(s.V) && args == 2 && s.F == 0 && s.Tag == 0 && flat
	}
	return false
}

// mayExpr says the same of an expression.
func (in scope) mayExpr(x api.Expr) bool {
	parts := len(x.L)
	switch x.Kind {
	case api.EConst:
		return parts == 0 && x.V == 0 && x.Op == api.NoOp
	case api.EVar:
		return in.has(x.V) && parts == 0 && x.N == 0 && x.Op == api.NoOp
	case api.EBin:
		return x.Op >= api.ADD && x.Op <= api.EQ && parts == 2 && x.N == 0 && x.V == 0
	case api.ELoad:
		return parts == 1 && x.N == 0 && x.V == 0 && x.Op == api.NoOp
	}
	return false
}

// has says whether there is a variable of that number.
func (in scope) has(v int) bool { return v >= 0 && v < in.vars }

// takes says whether an earlier function is handed so many arguments.
func (in scope) takes(f, args int) bool {
	return f >= 0 && f < len(in.earlier) && args == in.earlier[f].Params
}
