package interp

import (
	"crypto/sha256"
	"encoding/binary"
	"math"
	"math/big"
	"slices"
	"testing"

	"proctor/api"
)

// The second judge: the chapter's words once more, without a call within a call and without a panic: a pile of functions that are being run, each with a list of what it has still to do; expressions as signs behind their parts, on a pile of numbers; numbers that can't wrap; each data word asked for by its own address; and the library's SHA-256.

const most = math.MaxUint64

// Short forms of what programs are made of.

func con(n uint64) api.Expr    { return api.Expr{Kind: api.EConst, N: n} }
func vr(v int) api.Expr        { return api.Expr{Kind: api.EVar, V: v} }
func load(x api.Expr) api.Expr { return api.Expr{Kind: api.ELoad, L: []api.Expr{x}} }

func bin(op api.Op, x, y api.Expr) api.Expr {
	return api.Expr{Kind: api.EBin, Op: op, L: []api.Expr{x, y}}
}

func add(x, y api.Expr) api.Expr { return bin(api.ADD, x, y) }
func sub(x, y api.Expr) api.Expr { return bin(api.SUB, x, y) }

// fault is an expression that traps.
func fault() api.Expr { return bin(api.DIV, con(1), con(0)) }

func set(v int, x api.Expr) api.Stmt {
	return api.Stmt{Kind: api.SSet, V: v, Args: []api.Expr{x}}
}

func store(x, y api.Expr) api.Stmt {
	return api.Stmt{Kind: api.SStore, Args: []api.Expr{x, y}}
}

// put stores a number at an address.
func put(at, n uint64) api.Stmt { return store(con(at), con(n)) }

func fork(x api.Expr, then, other []api.Stmt) api.Stmt {
	return api.Stmt{Kind: api.SIf, Args: []api.Expr{x}, Then: then, Else: other}
}

func while(x api.Expr, then ...api.Stmt) api.Stmt {
	return api.Stmt{Kind: api.SWhile, Args: []api.Expr{x}, Then: then}
}

func ret(x api.Expr) api.Stmt { return api.Stmt{Kind: api.SReturn, Args: []api.Expr{x}} }

func call(v, f int, args ...api.Expr) api.Stmt {
	return api.Stmt{Kind: api.SCall, V: v, F: f, Args: args}
}

func hash(tag int, x, y, z api.Expr) api.Stmt {
	return api.Stmt{Kind: api.SHash, Tag: tag, Args: []api.Expr{x, y, z}}
}

func pre(v int, x, y api.Expr) api.Stmt {
	return api.Stmt{Kind: api.SPre, V: v, Args: []api.Expr{x, y}}
}

func plen(v int, x api.Expr) api.Stmt {
	return api.Stmt{Kind: api.SPlen, V: v, Args: []api.Expr{x}}
}

func fn(params, vars int, body ...api.Stmt) api.Func {
	return api.Func{Params: params, Vars: vars, Body: body}
}

// of is a program of one function.
func of(vars, data int, body ...api.Stmt) api.Prog {
	return prog(data, fn(0, vars, body...))
}

func prog(data int, funcs ...api.Func) api.Prog { return api.Prog{Funcs: funcs, Data: data} }

func number(n uint64) *big.Int { return new(big.Int).SetUint64(n) }

// wrapped is a number modulo 2^64.
func wrapped(n *big.Int) uint64 {
	return new(big.Int).Mod(n, new(big.Int).Lsh(big.NewInt(1), 64)).Uint64()
}

// evalBy is what Eval should answer.
func evalBy(op api.Op, a, b uint64) (uint64, api.Errno) {
	x, y, z := number(a), number(b), new(big.Int)
	switch op {
	default:
		return 0, api.ErrArg
	case api.ADD:
		z.Add(x, y)
	case api.SUB:
		z.Sub(x, y)
	case api.MUL:
		z.Mul(x, y)
	case api.DIV, api.REM:
		if b == 0 {
			return 0, api.ErrForm
		}
		rest := new(big.Int)
		if z.QuoRem(x, y, rest); op == api.REM {
			z = rest
		}
	case api.AND:
		z.And(x, y)
	case api.OR:
		z.Or(x, y)
	case api.XOR:
		z.Xor(x, y)
	case api.SHL:
		if b < 64 {
			z.Lsh(x, uint(b))
		}
	case api.SHR:
		if b < 64 {
			z.Rsh(x, uint(b))
		}
	case api.LTU:
		if x.Cmp(y) < 0 {
			z.SetInt64(1)
		}
	case api.EQ:
		if x.Cmp(y) == 0 {
			z.SetInt64(1)
		}
	}
	return wrapped(z), api.OK
}

// activity is a function that is being run: its variables, what it has still to do (the next one last), and in which of the caller's variables its value goes.
type activity struct {
	vars []uint64
	todo []api.Stmt
	into int
}

// course is a run.
type course struct {
	p     api.Prog
	data  []uint64
	known []api.Hashed
	pile  []*activity
	value uint64
}

// runBy is what Run should answer of arguments that may be.
func runBy(p api.Prog, data []uint64, known []api.Hashed, fuel int) api.Outcome {
	c := &course{p: p, data: append(slices.Clone(data), make([]uint64, p.Data-len(data))...), known: known}
	c.enter(p.Funcs[len(p.Funcs)-1], nil, 0)
	for steps := 0; ; {
		top := c.pile[len(c.pile)-1]
		if len(top.todo) == 0 {
			c.leave(0)
		} else if steps == fuel {
			return api.Outcome{Status: api.Running, Data: c.data, Steps: steps}
		} else {
			s := top.todo[len(top.todo)-1]
			top.todo = top.todo[:len(top.todo)-1]
			steps++
			if !c.do(top, s) {
				return api.Outcome{Status: api.Trapped, Data: c.data, Steps: steps}
			}
		}
		if len(c.pile) == 0 {
			return api.Outcome{Status: api.Halted, Value: c.value, Data: c.data, Steps: steps}
		}
	}
}

func (c *course) enter(f api.Func, args []uint64, into int) {
	a := &activity{vars: append(slices.Clone(args), make([]uint64, f.Vars-len(args))...), into: into}
	a.plan(f.Body)
	c.pile = append(c.pile, a)
}

func (a *activity) plan(list []api.Stmt) {
	for _, s := range slices.Backward(list) {
		a.todo = append(a.todo, s)
	}
}

func (c *course) leave(value uint64) {
	gone := c.pile[len(c.pile)-1]
	c.pile = c.pile[:len(c.pile)-1]
	if len(c.pile) == 0 {
		c.value = value
	} else {
		c.pile[len(c.pile)-1].vars[gone.into] = value
	}
}

// do does a statement; false, if it traps.
func (c *course) do(a *activity, s api.Stmt) bool {
	var args []uint64
	for _, x := range s.Args {
		n, ok := c.valueBy(x, a.vars)
		if !ok {
			return false
		}
		args = append(args, n)
	}
	switch s.Kind {
	case api.SSet:
		a.vars[s.V] = args[0]
	case api.SStore:
		return c.write(args[0], args[1])
	case api.SIf:
		if args[0] == 0 {
			a.plan(s.Else)
		} else {
			a.plan(s.Then)
		}
	case api.SWhile:
		if args[0] > 0 {
			a.plan([]api.Stmt{s})
			a.plan(s.Then)
		}
	case api.SReturn:
		c.leave(args[0])
	case api.SCall:
		c.enter(c.p.Funcs[s.F], args, s.V)
	case api.SHash:
		return c.sum(s.Tag, args)
	default:
		b, ok := c.bytesOf(args[0])
		if !ok {
			return false
		}
		if s.Kind == api.SPlen {
			a.vars[s.V] = uint64(len(b))
			return true
		}
		padded := append(slices.Clone(b), make([]byte, 8)...)
		a.vars[s.V] = 0
		if args[1] < uint64(len(b)) {
			a.vars[s.V] = binary.BigEndian.Uint64(padded[args[1]:])
		}
	}
	return true
}

// behind is an expression's parts and itself, each behind its own parts.
func behind(x api.Expr) []api.Expr {
	var l []api.Expr
	for _, y := range x.L {
		l = append(l, behind(y)...)
	}
	return append(l, x)
}

// valueBy is what an expression comes to; false, if it traps.
func (c *course) valueBy(x api.Expr, vars []uint64) (uint64, bool) {
	var pile []uint64
	for _, y := range behind(x) {
		parts := pile[len(pile)-len(y.L):]
		var n uint64
		switch ok := true; y.Kind {
		case api.EConst:
			n = y.N
		case api.EVar:
			n = vars[y.V]
		case api.ELoad:
			if n, ok = c.read(parts[0], 0); !ok {
				return 0, false
			}
		case api.EBin:
			m, e := evalBy(y.Op, parts[0], parts[1])
			if e != api.OK {
				return 0, false
			}
			n = m
		}
		pile = append(pile[:len(pile)-len(y.L)], n)
	}
	return pile[0], true
}

// place is where a data word stands: the one so much behind an address, modulo 2^64.
func (c *course) place(at, more uint64) (int, bool) {
	n := wrapped(new(big.Int).Add(number(at), number(more)))
	return int(n), number(n).Cmp(big.NewInt(int64(len(c.data)))) < 0
}

func (c *course) read(at, more uint64) (uint64, bool) {
	i, ok := c.place(at, more)
	if !ok {
		return 0, false
	}
	return c.data[i], true
}

func (c *course) write(at, n uint64) bool {
	i, ok := c.place(at, 0)
	if ok {
		c.data[i] = n
	}
	return ok
}

// wordsBy are so many data words, as bytes.
func (c *course) wordsBy(at, count uint64) ([]byte, bool) {
	var b []byte
	for i := range count {
		w, ok := c.read(at, i)
		if !ok {
			return nil, false
		}
		b = binary.BigEndian.AppendUint64(b, w)
	}
	return b, true
}

// sum does a SHash; false, if it traps.
func (c *course) sum(tag int, args []uint64) bool {
	if args[2] > 128 {
		return false
	}
	b, ok := c.wordsBy(args[1], uint64(math.Ceil(float64(args[2])/8)))
	_, there := c.wordsBy(args[0], 4)
	if !ok || !there {
		return false
	}
	b = b[:args[2]]
	if tag != 256 {
		b = append([]byte{byte(tag)}, b...)
	}
	h := sha256.Sum256(b)
	for i := range 4 {
		c.write(args[0]+uint64(i), binary.BigEndian.Uint64(h[8*i:]))
	}
	return true
}

// bytesOf are the bytes that are known of the sum at an address; false, if there are none.
func (c *course) bytesOf(at uint64) ([]byte, bool) {
	b, ok := c.wordsBy(at, 4)
	if !ok {
		return nil, false
	}
	i := slices.IndexFunc(c.known, func(x api.Hashed) bool { return string(x.Sum[:]) == string(b) })
	if i < 0 || sha256.Sum256(c.known[i].Bytes) != api.Hash(b) {
		return nil, false
	}
	return c.known[i].Bytes, true
}

func sameOutcome(x, y api.Outcome) bool {
	return x.Status == y.Status && x.Value == y.Value && x.Steps == y.Steps && slices.Equal(x.Data, y.Data)
}

// wantRun holds a run against the judge, and tells what it comes to.
func wantRun(t *testing.T, p api.Prog, data []uint64, known []api.Hashed, fuel int) api.Outcome {
	t.Helper()
	o, e := Run(p, data, known, fuel)
	if want := runBy(p, data, known, fuel); e != api.OK || !sameOutcome(o, want) {
		t.Fatalf("Run with fuel %d = %v, %d, want %v: %v", fuel, o, e, want, p)
	}
	return o
}

// wantOutcome asks for an outcome, with fuel to spare.
func wantOutcome(t *testing.T, name string, p api.Prog, data []uint64, known []api.Hashed, want api.Outcome) {
	t.Helper()
	if o := wantRun(t, p, data, known, 9999); !sameOutcome(o, want) {
		t.Errorf("%s: %v, want %v", name, o, want)
	}
	wantFuel(t, p, data, known)
}

// wantFuel holds runs against the judge with all fuels that are too little (a few of them, where there are many), with just enough, and with more; and tells the outcome with enough.
func wantFuel(t *testing.T, p api.Prog, data []uint64, known []api.Hashed) api.Outcome {
	t.Helper()
	whole := wantRun(t, p, data, known, 9999)
	step := 1 + whole.Steps/100
	for fuel := 0; fuel < whole.Steps; fuel += step {
		if o := wantRun(t, p, data, known, fuel); o.Status != api.Running || o.Value != 0 || o.Steps != fuel {
			t.Fatalf("with fuel %d of %d: %v", fuel, whole.Steps, o)
		}
	}
	if whole.Status != api.Running {
		for _, fuel := range []int{whole.Steps, whole.Steps + 1, whole.Steps + 2, 1 << 22} {
			if o, e := Run(p, data, known, fuel); e != api.OK || !sameOutcome(o, whole) {
				t.Fatalf("with fuel %d: %v, %d, want %v", fuel, o, e, whole)
			}
		}
	}
	return whole
}

// halted and trapped are outcomes.
func halted(steps int, value uint64, data ...uint64) api.Outcome {
	return api.Outcome{Status: api.Halted, Value: value, Steps: steps, Data: data}
}

func trapped(steps int, data ...uint64) api.Outcome {
	return api.Outcome{Status: api.Trapped, Steps: steps, Data: data}
}
