package interp

import (
	"fmt"
	"math"
	"slices"
	"testing"

	"proctor/api"
)

// wantError asks for an error, and for nothing beside it.
func wantError(t *testing.T, name string, p api.Prog, data []uint64, fuel int, want api.Errno) {
	t.Helper()
	for _, known := range [][]api.Hashed{nil, {entry([]byte("known"))}} {
		if o, e := Run(p, data, known, fuel); e != want || o.Status != 0 || o.Value != 0 || len(o.Data) != 0 || o.Steps != 0 {
			t.Errorf("%s: %v, %d, want %d", name, o, e, want)
		}
	}
}

// within are lists that stand within themselves, as programs.
func within() []api.Prog {
	self := []api.Stmt{while(con(1))}
	self[0].Then = self
	sides := []api.Stmt{fork(con(1), nil, nil), fork(con(0), nil, nil)}
	sides[0].Then, sides[0].Else, sides[1].Else = sides, sides, sides
	one := []api.Expr{{Kind: api.ELoad}}
	one[0].L = one
	two := []api.Expr{{Kind: api.EBin, Op: api.ADD}, {Kind: api.EBin, Op: api.MUL}}
	two[0].L, two[1].L = two, two
	return []api.Prog{of(0, 1, self...), of(0, 1, self[0], ret(con(1))), of(0, 1, sides...), of(0, 1, ret(one[0])), of(1, 1, set(0, two[1])), of(0, 1, while(two[0], self...)), prog(1, fn(2, 2), fn(0, 1, call(0, 0, two...)))}
}

// wrongs are programs that may not be.
func wrongs() []api.Prog {
	deep := con(1)
	for range 8 {
		deep = add(deep, con(1))
	}
	body := []api.Stmt{ret(con(1))}
	for range 8 {
		body = []api.Stmt{fork(con(1), body, nil)}
	}
	return append(within(),
		api.Prog{}, prog(1), api.Prog{Funcs: make([]api.Func, 33)}, prog(0, fn(1, 1)), prog(0, fn(2, 1), fn(0, 0)), prog(0, fn(-1, 0), fn(0, 0)), of(65, 0), of(-1, 0), of(0, -1), of(0, 1025), of(0, math.MinInt), of(0, math.MaxInt),
		of(1, 0, set(1, con(1))), of(0, 0, set(0, con(1))), of(1, 0, set(-1, con(1))), of(1, 0, ret(vr(1))), of(1, 0, ret(vr(-1))), of(1, 0, api.Stmt{}), of(1, 0, api.Stmt{Kind: 10, Args: []api.Expr{con(1)}}), of(1, 0, ret(api.Expr{})), of(1, 0, ret(api.Expr{Kind: 5})),
		of(1, 0, call(0, 0)), prog(0, fn(0, 1, call(0, 1)), fn(0, 0)), prog(0, fn(1, 1), fn(0, 1, call(0, 0))), prog(0, fn(1, 1), fn(0, 1, call(0, 0, con(1), con(2)))), prog(0, fn(0, 0), fn(0, 1, call(0, -1))),
		of(1, 4, hash(257, con(0), con(0), con(0))), of(1, 4, hash(-1, con(0), con(0), con(0))), of(0, 0, ret(bin(api.MOV, con(1), con(1)))), of(0, 0, ret(bin(api.LD, con(1), con(1)))), of(0, 0, ret(bin(api.NoOp, con(1), con(1)))),
		of(0, 0, api.Stmt{Kind: api.SReturn}), of(0, 2, api.Stmt{Kind: api.SStore, Args: []api.Expr{con(1)}}), of(0, 0, api.Stmt{Kind: api.SIf}), of(0, 0, api.Stmt{Kind: api.SWhile, Args: []api.Expr{con(0)}, Else: []api.Stmt{ret(con(1))}}), of(0, 0, ret(api.Expr{Kind: api.ELoad})), of(0, 0, ret(api.Expr{Kind: api.EBin, Op: api.ADD, L: []api.Expr{con(1)}})),
		of(0, 0, ret(deep)), of(0, 0, body...), of(0, 0, slices.Repeat([]api.Stmt{ret(con(1))}, 2049)...))
}

// P14.1: programs that may not be, ahead of all else that is wrong.
func TestProgramsThatMayNotBe(t *testing.T) {
	for i, p := range wrongs() {
		for _, fuel := range []int{math.MinInt, -1, 0, 1, 9999, 1 << 22, 1<<22 + 1, math.MaxInt} {
			for _, data := range [][]uint64{nil, {1}, make([]uint64, 2000)} {
				wantError(t, fmt.Sprintf("the program %d, %d words, fuel %d", i, len(data), fuel), p, data, fuel, api.ErrArg)
			}
		}
	}
}

// P14.1: more words of data than the program says.
func TestTooMuchData(t *testing.T) {
	for _, n := range []int{0, 1, 2, 4, 1023, 1024} {
		for _, given := range []int{0, 1, n - 1, n, n + 1, n + 2, 2*n + 1, 1 << 16} {
			if given < 0 {
				continue
			}
			data := slices.Repeat([]uint64{3}, given)
			name := fmt.Sprintf("%d words of %d", given, n)
			if given <= n {
				wantOutcome(t, name, of(0, n), data, nil, halted(0, 0, append(slices.Clone(data), make([]uint64, n-given)...)...))
				continue
			}
			for _, fuel := range []int{-1, 0, 1, 1 << 22, 1<<22 + 1, math.MaxInt} {
				wantError(t, name, of(0, n), data, fuel, api.ErrArg)
			}
		}
	}
}

// P14.1: fuel that may not be, and fuel above its limit.
func TestFuelThatMayNotBe(t *testing.T) {
	for i, p := range []api.Prog{of(0, 0), of(0, 4, put(9, 1)), first(), of(0, 0, while(con(1)))} {
		for _, fuel := range []int{math.MinInt, math.MinInt32, -1 << 22, -2, -1} {
			wantError(t, fmt.Sprint(i, ", fuel ", fuel), p, nil, fuel, api.ErrArg)
			wantError(t, fmt.Sprint(i, ", fuel ", fuel, ", and data"), p, make([]uint64, 5), fuel, api.ErrArg)
		}
		for _, fuel := range []int{1<<22 + 1, 1<<22 + 2, 1 << 23, 1 << 32, 1<<32 + 1, math.MaxInt - 1, math.MaxInt} {
			wantError(t, fmt.Sprint(i, ", fuel ", fuel), p, nil, fuel, api.ErrLimit)
			wantError(t, fmt.Sprint(i, ", fuel ", fuel, ", and data"), p, make([]uint64, 5), fuel, api.ErrArg)
		}
		for _, fuel := range []int{0, 1, 2} {
			wantRun(t, p, nil, nil, fuel)
		}
		if _, e := Run(p, nil, nil, 1<<22); e != api.OK {
			t.Errorf("%d, the most fuel: %d", i, e)
		}
	}
}

// P14.1: programs as great as they may be.
func TestGreatPrograms(t *testing.T) {
	full := con(1)
	for range 7 {
		full = add(full, full)
	}
	wantOutcome(t, "full of expressions", of(1, 0, slices.Repeat([]api.Stmt{set(0, add(vr(0), con(1)))}, 1024)...), nil, nil, halted(1024, 0))
	wantOutcome(t, "all depths", of(1, 0, append(slices.Repeat([]api.Stmt{set(0, full)}, 15), ret(full))...), nil, nil, halted(16, 128))
	wantOutcome(t, "full of statements", of(0, 0, slices.Repeat([]api.Stmt{fork(con(1), nil, nil)}, 2048)...), nil, nil, halted(2048, 0))
	p := api.Prog{Funcs: make([]api.Func, 32), Data: 1024}
	wantOutcome(t, "all functions", p, nil, nil, halted(0, 0, make([]uint64, 1024)...))
}
