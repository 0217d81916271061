package compile

import (
	"crypto/sha256"
	"encoding/binary"
	"math"
	"math/big"
	"slices"
	"testing"

	"proctor/api"
	"proctor/interp"
	"proctor/ir"
	"proctor/vm"
)

// How images and runs are held against the chapter's words: what an image is and begins as is told here once more, word by word; what its machine comes to is read off the machine, and held against the interpreter.

const most = math.MaxUint64

// Short forms of what programs are made of.

func con(n uint64) api.Expr    { return api.Expr{Kind: api.EConst, N: n} }
func vr(v int) api.Expr        { return api.Expr{Kind: api.EVar, V: v} }
func load(x api.Expr) api.Expr { return api.Expr{Kind: api.ELoad, L: []api.Expr{x}} }

func bin(op api.Op, x, y api.Expr) api.Expr {
	return api.Expr{Kind: api.EBin, Op: op, L: []api.Expr{x, y}}
}

func add(x, y api.Expr) api.Expr { return bin(api.ADD, x, y) }
func sub(x, y api.Expr) api.Expr { return bin(api.SUB, x, y) }

// fault is an expression that traps.
func fault() api.Expr { return bin(api.DIV, con(1), con(0)) }

func set(v int, x api.Expr) api.Stmt {
	return api.Stmt{Kind: api.SSet, V: v, Args: []api.Expr{x}}
}

func store(x, y api.Expr) api.Stmt {
	return api.Stmt{Kind: api.SStore, Args: []api.Expr{x, y}}
}

// put stores a number at an address.
func put(at, n uint64) api.Stmt { return store(con(at), con(n)) }

func fork(x api.Expr, then, other []api.Stmt) api.Stmt {
	return api.Stmt{Kind: api.SIf, Args: []api.Expr{x}, Then: then, Else: other}
}

func while(x api.Expr, then ...api.Stmt) api.Stmt {
	return api.Stmt{Kind: api.SWhile, Args: []api.Expr{x}, Then: then}
}

// countdown does something with a variable at n, n - 1, .., 1.
func countdown(v int, n uint64, then ...api.Stmt) []api.Stmt {
	return []api.Stmt{set(v, con(n)), while(vr(v), append(slices.Clone(then), set(v, sub(vr(v), con(1))))...)}
}

func ret(x api.Expr) api.Stmt { return api.Stmt{Kind: api.SReturn, Args: []api.Expr{x}} }

func call(v, f int, args ...api.Expr) api.Stmt {
	return api.Stmt{Kind: api.SCall, V: v, F: f, Args: args}
}

func hash(tag int, x, y, z api.Expr) api.Stmt {
	return api.Stmt{Kind: api.SHash, Tag: tag, Args: []api.Expr{x, y, z}}
}

func pre(v int, x, y api.Expr) api.Stmt {
	return api.Stmt{Kind: api.SPre, V: v, Args: []api.Expr{x, y}}
}

func plen(v int, x api.Expr) api.Stmt {
	return api.Stmt{Kind: api.SPlen, V: v, Args: []api.Expr{x}}
}

func fn(params, vars int, body ...api.Stmt) api.Func {
	return api.Func{Params: params, Vars: vars, Body: body}
}

func prog(data int, funcs ...api.Func) api.Prog { return api.Prog{Funcs: funcs, Data: data} }

// of is a program of one function.
func of(vars, data int, body ...api.Stmt) api.Prog {
	return prog(data, fn(0, vars, body...))
}

// first13 is chapter 13's first program.
func first13() api.Prog {
	return prog(4, fn(1, 2, set(1, add(vr(0), con(1))), ret(vr(1))), fn(0, 1, call(0, 0, con(7)), store(con(0), vr(0))))
}

// entry is bytes that are known, with their sum.
func entry(b []byte) api.Hashed { return api.Hashed{Bytes: b, Sum: sha256.Sum256(b)} }

// sumOf are the words of the sum of bytes.
func sumOf(b []byte) []uint64 {
	h := sha256.Sum256(b)
	l := make([]uint64, 4)
	for i := range l {
		l[i] = binary.BigEndian.Uint64(h[8*i:])
	}
	return l
}

// imageBy says whether an image may be.
func imageBy(i api.Image) bool {
	together := new(big.Int).Add(big.NewInt(int64(i.Base)), big.NewInt(int64(i.Data)))
	return slices.Contains([]int{1, 2, 4, 8, 16, 32, 64, 128, 256, 512, 1024, 2048, 4096}, len(i.Words)) && i.Data >= 0 && i.Base >= 0 && together.Cmp(big.NewInt(int64(len(i.Words)))) <= 0
}

// startBy is the start of an image that may be.
func startBy(i api.Image, data []uint64) api.Machine {
	m := api.Machine{Mem: make([]uint64, len(i.Words))}
	for at, w := range i.Words {
		switch {
		case at < i.Base || at >= i.Base+i.Data:
			m.Mem[at] = w
		case at-i.Base < len(data):
			m.Mem[at] = data[at-i.Base]
		}
	}
	return m
}

// boundBy is the bound of so many nodes and steps; false, if it is above 2^22.
func boundBy(nodes, steps int) (int, bool) {
	n := big.NewInt(32)
	n.Mul(n, new(big.Int).Add(big.NewInt(int64(nodes)), big.NewInt(1)))
	n.Mul(n, new(big.Int).Add(big.NewInt(int64(steps)), big.NewInt(1)))
	return int(n.Int64()), n.Cmp(big.NewInt(1<<22)) <= 0
}

// variablesOf is how many variables a program has together.
func variablesOf(p api.Prog) int {
	n := 0
	for _, f := range p.Funcs {
		n += f.Vars
	}
	return n
}

// mustFit says whether a program that may be must have an image.
func mustFit(p api.Prog) bool {
	nodes, _ := ir.Nodes(p)
	return nodes <= 200 && p.Data <= 512 && variablesOf(p) <= 512
}

// told is a program's text, for what is told of faults.
func told(p api.Prog) string {
	s, _ := ir.Text(p)
	if len(s) > 2000 {
		s = s[:2000] + ".."
	}
	return s
}

// wantImage is a program's image, which may be, has the program's Data, and is the same twice.
func wantImage(t *testing.T, p api.Prog) api.Image {
	t.Helper()
	i, e := Compile(p)
	if e != api.OK || !imageBy(i) || i.Data != p.Data {
		t.Fatalf("Compile: %d words, Base %d, Data %d, %d, of\n%s", len(i.Words), i.Base, i.Data, e, told(p))
	}
	if j, e := Compile(p); e != api.OK || j.Base != i.Base || j.Data != i.Data || !slices.Equal(j.Words, i.Words) {
		t.Fatalf("Compile once more: another image, %d, of\n%s", e, told(p))
	}
	return i
}

// wantCame holds the run of a program's image against an outcome of the interpreter, within the bound.
func wantCame(t *testing.T, p api.Prog, i api.Image, data []uint64, known []api.Hashed, want api.Outcome) (steps int) {
	t.Helper()
	m, e := Start(i, data...)
	if e != api.OK || !vm.Same(m, startBy(i, data)) {
		t.Fatalf("Start of %d words: %d, of\n%s", len(data), e, told(p))
	}
	nodes, _ := ir.Nodes(p)
	bound, ok := boundBy(nodes, want.Steps)
	if n, e := Bound(p, want.Steps); ok && (n != bound || e != api.OK) || !ok && (n != 0 || e != api.ErrLimit) {
		t.Fatalf("Bound of %d nodes and %d steps = %d, %d", nodes, want.Steps, n, e)
	}
	m, steps, e = vm.Run(m, known, min(bound, 1<<22))
	came := m.Mem[i.Base : i.Base+i.Data]
	if e != api.OK || m.Status != want.Status || m.Status == api.Halted && (m.Regs[1] != want.Value || !slices.Equal(came, want.Data)) {
		t.Fatalf("behind %d steps of %d, %d: Status %d, register 1 %d, data %v; want %v, of\n%s", steps, bound, e, m.Status, m.Regs[1], came, want, told(p))
	}
	if o, e := Result(i, m); e != api.OK || o.Status != want.Status || o.Value != want.Value || o.Steps != 0 || !slices.Equal(o.Data, came) {
		t.Fatalf("Result = %v, %d, want %v, of\n%s", o, e, want, told(p))
	}
	return steps
}

// wantRight asks that the machine of a program comes to what the interpreter says, which it tells.
func wantRight(t *testing.T, p api.Prog, data []uint64, known []api.Hashed) api.Outcome {
	t.Helper()
	return wantRightOf(t, p, wantImage(t, p), data, known)
}

// wantRightOf is wantRight of a program whose image is there.
func wantRightOf(t *testing.T, p api.Prog, i api.Image, data []uint64, known []api.Hashed) api.Outcome {
	t.Helper()
	want, e := interp.Run(p, data, known, 20000)
	if e != api.OK || want.Status == api.Running {
		t.Fatalf("the interpreter: Status %d, %d steps, %d, of\n%s", want.Status, want.Steps, e, told(p))
	}
	wantCame(t, p, i, data, known, want)
	return want
}

// wantHalted asks, beside that, for a value, and for data.
func wantHalted(t *testing.T, p api.Prog, data []uint64, known []api.Hashed, value uint64, words ...uint64) {
	t.Helper()
	o := wantRight(t, p, data, known)
	if o.Status != api.Halted || o.Value != value || !slices.Equal(o.Data, words) {
		t.Errorf("%v, want the value %d and %v, of\n%s", o, value, words, told(p))
	}
}

// wantTrapped asks, beside that, for a trap.
func wantTrapped(t *testing.T, p api.Prog, data []uint64, known []api.Hashed) {
	t.Helper()
	if o := wantRight(t, p, data, known); o.Status != api.Trapped {
		t.Errorf("%v, want a trap, of\n%s", o, told(p))
	}
}
