package interp

import (
	"math/rand"
	"testing"

	"proctor/api"
	"proctor/vm"
)

// edges are words about which something changes.
func edges() []uint64 {
	return []uint64{0, 1, 2, 3, 7, 31, 32, 63, 64, 65, 127, 128, 255, 256, 1<<32 - 1, 1 << 32, 1<<32 + 1, 1<<63 - 1, 1 << 63, 1<<63 + 1, most - 63, most - 1, most}
}

// wantEval holds Eval against the judge, and against a machine's step of the same Op.
func wantEval(t *testing.T, op api.Op, x, y uint64) {
	t.Helper()
	n, e := Eval(op, x, y)
	if m, f := evalBy(op, x, y); n != m || e != f {
		t.Fatalf("Eval(%d, %d, %d) = %d, %d, want %d, %d", op, x, y, n, e, m, f)
	}
	if e == api.ErrArg {
		return
	}
	m, _ := vm.Load(1, []api.Code{{Op: op, A: 3, B: 1, C: 2}})
	m.Regs[1], m.Regs[2] = x, y
	m, _ = vm.Step(m, nil)
	if (m.Status == api.Trapped) != (e == api.ErrForm) || m.Regs[3] != n {
		t.Fatalf("Eval(%d, %d, %d) = %d, %d, but the machine: %d, %d", op, x, y, n, e, m.Regs[3], m.Status)
	}
}

// P14.1: the numbers that each Op comes to.
func TestEvalNumbers(t *testing.T) {
	for i, c := range []struct {
		op         api.Op
		x, y, want uint64
		e          api.Errno
	}{
		{api.ADD, 2, 3, 5, api.OK}, {api.ADD, most, 1, 0, api.OK}, {api.ADD, 1 << 63, 1 << 63, 0, api.OK},
		{api.SUB, 3, 2, 1, api.OK}, {api.SUB, 2, 3, most, api.OK}, {api.SUB, 0, 1 << 63, 1 << 63, api.OK},
		{api.MUL, 3, 4, 12, api.OK}, {api.MUL, most, most, 1, api.OK}, {api.MUL, 1 << 63, 2, 0, api.OK},
		{api.DIV, 7, 2, 3, api.OK}, {api.DIV, most, 1, most, api.OK}, {api.DIV, 1, most, 0, api.OK}, {api.DIV, 0, 1, 0, api.OK},
		{api.DIV, 1, 0, 0, api.ErrForm}, {api.DIV, 0, 0, 0, api.ErrForm}, {api.DIV, most, 0, 0, api.ErrForm},
		{api.REM, 7, 2, 1, api.OK}, {api.REM, most, 1 << 63, 1<<63 - 1, api.OK}, {api.REM, 5, most, 5, api.OK},
		{api.REM, 1, 0, 0, api.ErrForm}, {api.REM, 0, 0, 0, api.ErrForm}, {api.REM, most, 0, 0, api.ErrForm},
		{api.AND, 12, 10, 8, api.OK}, {api.OR, 12, 10, 14, api.OK}, {api.XOR, 12, 10, 6, api.OK}, {api.XOR, most, most, 0, api.OK},
		{api.SHL, 3, 1, 6, api.OK}, {api.SHL, 3, 63, 1 << 63, api.OK}, {api.SHL, 3, 64, 0, api.OK}, {api.SHL, 3, most, 0, api.OK}, {api.SHL, 3, 1 << 32, 0, api.OK},
		{api.SHR, 6, 1, 3, api.OK}, {api.SHR, most, 63, 1, api.OK}, {api.SHR, most, 64, 0, api.OK}, {api.SHR, most, most, 0, api.OK}, {api.SHR, most, 256, 0, api.OK},
		{api.LTU, 1, 2, 1, api.OK}, {api.LTU, 2, 2, 0, api.OK}, {api.LTU, 3, 2, 0, api.OK}, {api.LTU, 1, 1 << 63, 1, api.OK}, {api.LTU, most, 0, 0, api.OK},
		{api.EQ, 2, 2, 1, api.OK}, {api.EQ, 2, 3, 0, api.OK}, {api.EQ, 0, 0, 1, api.OK}, {api.EQ, 1, 1<<32 + 1, 0, api.OK},
		{api.NoOp, 1, 1, 0, api.ErrArg}, {api.MOV, 1, 1, 0, api.ErrArg}, {api.LD, 1, 1, 0, api.ErrArg}, {255, 1, 1, 0, api.ErrArg}, {api.LD, 1, 0, 0, api.ErrArg},
	} {
		if n, e := Eval(c.op, c.x, c.y); n != c.want || e != c.e {
			t.Errorf("%d: Eval(%d, %d, %d) = %d, %d, want %d, %d", i, c.op, c.x, c.y, n, e, c.want, c.e)
		}
	}
}

// P14.1: every Op that there is, and those that there are not, at the edges and at random.
func TestEval(t *testing.T) {
	r := rand.New(rand.NewSource(14))
	for op := range 256 {
		for _, x := range edges() {
			for _, y := range edges() {
				wantEval(t, api.Op(op), x, y)
			}
		}
		for range 100 {
			x, y := r.Uint64()>>r.Intn(64), r.Uint64()>>r.Intn(64)
			wantEval(t, api.Op(op), x, y)
			wantEval(t, api.Op(op), x, x)
		}
	}
}

// P14.1: an expression comes to what Eval says, a division by 0 to a trap.
func TestEvalInExpressions(t *testing.T) {
	for op := api.ADD; op <= api.EQ; op++ {
		for _, x := range edges() {
			for _, y := range edges() {
				n, e := Eval(op, x, y)
				want := halted(1, n)
				if e == api.ErrForm {
					want = trapped(1)
				}
				if o := wantRun(t, of(0, 0, ret(bin(op, con(x), con(y)))), nil, nil, 9); !sameOutcome(o, want) {
					t.Fatalf("%d of %d and %d: %v, want %v", op, x, y, o, want)
				}
			}
		}
	}
}

// P14.1: whatever the Op and the words.
func FuzzEval(f *testing.F) {
	f.Add(uint8(api.ADD), uint64(1), uint64(2))
	f.Add(uint8(api.DIV), uint64(1), uint64(0))
	f.Add(uint8(api.SHL), uint64(1), uint64(64))
	f.Fuzz(func(t *testing.T, op uint8, x, y uint64) { wantEval(t, api.Op(op), x, y) })
}
