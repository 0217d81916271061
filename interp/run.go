package interp

import "proctor/api"

// runner is a program that is being run: its data as they stand, how much fuel is left, and what is known.
// The program may be: so each variable, function and part that it names is there.
type runner struct {
	api.Prog
	words []uint64
	left  int
	shelf
}

// What leaves statements early, and nothing else does: a SReturn, which has a value; a trap; and a statement, a condition for which no fuel is left.
type (
	returned struct{ value uint64 }
	trap     struct{}
	spent    struct{}
)

// function runs a function whose first variables are args. It tells its value, and that it Halted; or how the whole run ended within it.
func (r *runner) function(f api.Func, args []uint64) (value uint64, status api.Status) {
	defer func() {
		switch why := recover().(type) {
		case nil:
		case returned:
			value, status = why.value, api.Halted
		case trap:
			status = api.Trapped
		case spent:
			status = api.Running
		default:
			panic(why)
		}
	}()
	vars := make([]uint64, f.Vars)
	copy(vars, args)
	r.stmts(f.Body, vars)
	return 0, api.Halted
}

// call is the value of a function that another one calls. What ended the whole run within it leaves the caller, too.
func (r *runner) call(f api.Func, args []uint64) uint64 {
	value, status := r.function(f, args)
	switch status {
	case api.Trapped:
		panic(trap{})
	case api.Running:
		panic(spent{})
	}
	return value
}

// burn takes the fuel of a statement, or of a condition that is asked once more.
func (r *runner) burn() {
	if r.left == 0 {
		panic(spent{})
	}
	r.left--
}

func (r *runner) stmts(list []api.Stmt, vars []uint64) {
	for _, s := range list {
		r.stmt(s, vars)
	}
}

// stmt does a statement of a function with these variables.
func (r *runner) stmt(s api.Stmt, vars []uint64) {
	r.burn()
	args := r.values(s.Args, vars)
	switch s.Kind {
	case api.SSet:
		vars[s.V] = args[0]
	case api.SStore:
		*r.word(args[0]) = args[1]
	case api.SIf:
		if args[0] != 0 {
			r.stmts(s.Then, vars)
		} else {
			r.stmts(s.Else, vars)
		}
	case api.SWhile:
		for args[0] != 0 {
			r.stmts(s.Then, vars)
			r.burn()
			args = r.values(s.Args, vars)
		}
	case api.SReturn:
		panic(returned{args[0]})
	case api.SCall:
		vars[s.V] = r.call(r.Funcs[s.F], args)
	case api.SHash:
		r.hash(s.Tag, args[0], args[1], args[2])
	case api.SPre:
		vars[s.V] = piece(r.preimageAt(args[0]), args[1])
	case api.SPlen:
		vars[s.V] = uint64(len(r.preimageAt(args[0])))
	}
}

// values are what expressions come to, worked out from the left.
func (r *runner) values(list []api.Expr, vars []uint64) []uint64 {
	l := make([]uint64, 0, len(list))
	for _, x := range list {
		l = append(l, r.value(x, vars))
	}
	return l
}

// value is what an expression comes to.
func (r *runner) value(x api.Expr, vars []uint64) uint64 {
	switch x.Kind {
	case api.EConst:
		return x.N
	case api.EVar:
		return vars[x.V]
	case api.ELoad:
		return *r.word(r.value(x.L[0], vars))
	}
	left := r.value(x.L[0], vars)
	right := r.value(x.L[1], vars)
	n, e := Eval(x.Op, left, right)
	if e != api.OK {
		panic(trap{})
	}
	return n
}

// word is where the data word at an address stands.
func (r *runner) word(at uint64) *uint64 {
	if at >= uint64(len(r.words)) {
		panic(trap{})
	}
	return &r.words[at]
}

// span is so many data words from an address on, as they stand. Of none of them the address doesn't matter.
func (r *runner) span(at, count uint64) []uint64 {
	if count == 0 {
		return nil
	}
	all := uint64(len(r.words))
	if count > all || at > all-count {
		panic(trap{})
	}
	return r.words[at : at+count]
}
