package compile

import (
	"fmt"
	"slices"
	"testing"

	"proctor/api"
)

// edges are numbers at which something may change.
func edges() []uint64 {
	return []uint64{0, 1, 2, 3, 31, 32, 63, 64, 65, 255, 256, 4095, 4096, 1<<31 - 1, 1 << 31, 1<<32 - 1, 1 << 32, 1<<32 + 1, 0xffffffff00000000, 1<<63 - 1, 1 << 63, 0x123456789abcdef0, most - 1, most}
}

// P15.3: constants of all sizes.
func TestConstants(t *testing.T) {
	for _, n := range edges() {
		wantHalted(t, of(1, 1, set(0, con(n)), store(con(0), vr(0)), ret(con(n))), nil, nil, n, n)
	}
	for k := range 64 {
		for _, n := range []uint64{1 << k, 1<<k - 1, 1<<k + 1, most << k} {
			wantHalted(t, of(0, 0, ret(con(n))), nil, nil, n)
		}
	}
}

// P15.3: every Op of all edges, as constants and as data.
func TestOps(t *testing.T) {
	for op := api.ADD; op <= api.EQ; op++ {
		p := of(2, 3, set(0, load(con(0))), set(1, load(con(1))), store(con(2), bin(op, vr(0), vr(1))), ret(bin(op, load(con(0)), load(con(1)))))
		i := wantImage(t, p)
		for _, x := range edges() {
			for _, y := range edges() {
				o := wantRightOf(t, p, i, []uint64{x, y}, nil)
				if trap := y == 0 && (op == api.DIV || op == api.REM); trap != (o.Status == api.Trapped) || o.Status != api.Trapped && o.Data[2] != o.Value {
					t.Errorf("%d of %d and %d: %v", op, x, y, o)
				}
				wantRight(t, of(0, 0, ret(bin(op, con(x), con(y)))), nil, nil)
			}
		}
	}
	wantHalted(t, of(0, 0, ret(bin(api.SUB, con(3), con(5)))), nil, nil, most-1)
	wantHalted(t, of(0, 0, ret(bin(api.SHL, con(3), con(64)))), nil, nil, 0)
	wantHalted(t, of(0, 0, ret(bin(api.REM, con(17), con(5)))), nil, nil, 2)
	wantTrapped(t, of(0, 0, ret(fault())), nil, nil)
	wantTrapped(t, of(0, 0, ret(bin(api.REM, con(0), con(0)))), nil, nil)
}

// outside are addresses of all kinds: those of data of so many words, one behind them, those that lie in an image beside them, those that wrap.
func outside(data int) []uint64 {
	l := []uint64{1 << 12, 1<<12 + 1, 1 << 13, 1 << 16, 1<<31 - 1, 1 << 31, 1<<32 - 1, 1 << 32, 1<<32 + 1, 1 << 52, 1 << 60, 1<<61 + 1, 1<<63 - 1, 1 << 63, 1<<63 + 1}
	for i := range uint64(data) + 140 {
		l = append(l, i, most-i)
	}
	for i := uint64(0); i < 4400; i += 61 {
		l = append(l, i, most-i, 1<<32+i, 1<<32-i, 1<<63+i, uint64(data)-i)
	}
	return l
}

// P15.3: an address of a load and of a store, as a number that is worked out, and as a constant.
func TestAddresses(t *testing.T) {
	for _, data := range []int{1, 2, 3, 5, 8, 60} {
		reads := of(0, data, ret(load(load(con(0)))))
		sums := of(2, data, set(0, load(con(0))), set(1, sub(con(0), con(7))), ret(load(add(add(vr(0), con(7)), vr(1)))))
		writes := of(1, data, set(0, load(con(0))), store(vr(0), con(1<<40)), ret(con(3)))
		images := []api.Image{wantImage(t, reads), wantImage(t, sums), wantImage(t, writes)}
		for _, at := range outside(data) {
			for k, p := range []api.Prog{reads, sums, writes} {
				o := wantRightOf(t, p, images[k], []uint64{at}, nil)
				if (o.Status == api.Trapped) != (at >= uint64(data)) {
					t.Fatalf("the address %d of %d: %v", at, data, o)
				}
			}
			if data == 5 {
				wantRight(t, of(0, data, ret(load(con(at)))), numbered(data), nil)
				wantRight(t, of(0, data, store(con(at), con(8))), numbered(data), nil)
			}
		}
	}
	for _, at := range outside(0) {
		wantTrapped(t, of(0, 0, ret(load(con(at)))), nil, nil)
		wantTrapped(t, of(1, 0, set(0, con(at)), ret(load(vr(0)))), nil, nil)
		wantTrapped(t, of(1, 0, set(0, con(at)), store(vr(0), con(1))), nil, nil)
	}
}

// P15.3: whatever is stored and wherever, nothing but that data word changes: no code, no variable, no way back.
func TestStoresChangeNothingElse(t *testing.T) {
	for data := 1; data < 40; data++ {
		p := prog(data,
			fn(2, 3, set(2, add(vr(0), vr(1))), store(vr(0), con(most)), ret(vr(2))),
			fn(0, 3, set(1, con(11)), call(0, 0, load(con(0)), con(9)), set(2, con(12)), store(con(0), add(vr(0), add(vr(1), vr(2)))), call(1, 0, con(0), con(1)), ret(add(vr(1), vr(2)))))
		i := wantImage(t, p)
		for at := range uint64(data) + 50 {
			wantRightOf(t, p, i, []uint64{at}, nil)
			wantRightOf(t, p, i, []uint64{most - at}, nil)
		}
	}
}

// deeps are expressions of all shapes that are so deep, of a leaf and of another one.
func deeps(levels int, leaf, other api.Expr) []api.Expr {
	left, right, zig, both := leaf, leaf, leaf, leaf
	for i := range levels - 1 {
		op := api.ADD + api.Op(i%3)
		left, right, both = bin(op, left, other), bin(op, other, right), bin(op, both, both)
		if i%2 == 0 {
			zig = bin(op, zig, other)
		} else {
			zig = bin(op, other, zig)
		}
	}
	well := leaf
	for nest(well)+2 <= levels {
		well = load(bin(api.AND, well, con(3)))
	}
	for nest(well) < levels {
		well = load(well)
	}
	return []api.Expr{left, right, zig, both, well}
}

// P15.3: expressions of all depths and shapes; each part must come to where it is asked for.
func TestDeepExpressions(t *testing.T) {
	data := []uint64{2, 3, 1, 0, 5, 6, 7, 8}
	begin := []api.Stmt{set(0, con(3)), set(1, con(4))}
	with := func(l ...api.Stmt) api.Prog { return of(2, 8, slices.Concat(begin, l)...) }
	for levels := 1; levels <= 8; levels++ {
		for _, leaf := range []api.Expr{con(3), con(1<<40 + 3), vr(0), load(con(1))} {
			for _, x := range deeps(levels+1-nest(leaf), leaf, con(2)) {
				for _, y := range deeps(levels, vr(1), con(1<<33+1)) {
					wantRight(t, with(store(con(2), x), store(con(3), y), ret(x)), data, nil)
					wantRight(t, with(store(x, y), ret(y)), data, nil)
					wantRight(t, with(set(0, x), set(1, y), ret(sub(vr(0), vr(1)))), data, nil)
				}
			}
		}
	}
}

// nest is how deep an expression is.
func nest(x api.Expr) int {
	deep := 0
	for _, y := range x.L {
		deep = max(deep, nest(y))
	}
	return deep + 1
}

// wrap is an expression that comes to what x comes to, eight deep, with its depth on the left, on the right, or on both sides.
func wrap(x api.Expr, side int) api.Expr {
	for nest(x) < 8 {
		n := uint64(nest(x))
		switch side {
		case 0:
			x = sub(add(con(n), con(1<<40)), sub(con(n+1<<40), x))
		case 1:
			x = add(x, con(0))
		default:
			x = bin(api.OR, x, x)
		}
		if nest(x) > 8 {
			return x.L[1].L[1]
		}
	}
	return x
}

// P15.3: expressions eight deep in all places of a statement at once: no register that is still asked for is written over.
func TestDeepEverywhere(t *testing.T) {
	data := append(sumOf([]byte("known")), 9, 10, 11, 12, 13)
	known := []api.Hashed{entry([]byte("known"))}
	all := func(k int) (l []api.Expr) {
		for i, n := range []uint64{4, 0, 5, 7, 1, 3} {
			l = append(l, wrap(con(n), (k+i)%3))
		}
		return l
	}
	for k := range 3 {
		x := all(k)
		p := prog(9,
			fn(6, 6, store(vr(0), add(vr(1), add(vr(2), add(vr(3), add(vr(4), vr(5))))))),
			fn(0, 2, call(0, 0, x...)))
		wantRight(t, p, data, known)
		for _, s := range []api.Stmt{store(x[0], x[3]), hash(7, x[0], x[1], x[3]), hash(256, x[2], x[4], x[5]), pre(0, x[1], x[4]), plen(1, x[1]), pre(0, x[4], x[1]), set(1, x[2])} {
			for _, y := range s.Args {
				if nest(y) < 7 {
					t.Fatalf("%d deep", nest(y))
				}
			}
			p := of(2, 9, s, ret(add(vr(0), vr(1))))
			wantRight(t, p, data, known)
			wantRight(t, p, data, nil)
		}
	}
}

// P15.3: SReturn within if, while and calls; what stands behind it is not done.
func TestReturns(t *testing.T) {
	bad := put(99, 1)
	wantHalted(t, of(0, 1), []uint64{4}, nil, 0, 4)
	wantHalted(t, of(0, 0, ret(con(5)), bad), nil, nil, 5)
	wantHalted(t, of(0, 0, fork(con(1), []api.Stmt{ret(con(5)), bad}, []api.Stmt{bad}), bad), nil, nil, 5)
	wantHalted(t, of(0, 0, fork(con(0), []api.Stmt{bad}, []api.Stmt{ret(con(6)), bad}), bad), nil, nil, 6)
	wantHalted(t, of(0, 0, while(con(1), ret(con(7)), bad), bad), nil, nil, 7)
	wantHalted(t, of(1, 0, append(countdown(0, 9, fork(bin(api.EQ, vr(0), con(4)), []api.Stmt{ret(vr(0))}, nil)), bad)...), nil, nil, 4)
	wantHalted(t, of(1, 0, while(con(1), while(con(1), fork(con(1), []api.Stmt{while(con(2), ret(con(8)))}, nil)))), nil, nil, 8)
	inner := fn(1, 1, while(vr(0), fork(bin(api.LTU, vr(0), con(5)), []api.Stmt{ret(add(vr(0), con(100)))}, nil), set(0, sub(vr(0), con(1)))))
	for n, want := range map[uint64]uint64{0: 0, 1: 101, 4: 104, 5: 104, 50: 104} {
		wantHalted(t, prog(0, inner, fn(0, 1, call(0, 0, con(n)), ret(vr(0)))), nil, nil, want)
		wantHalted(t, prog(0, inner, fn(1, 2, while(con(1), call(1, 0, vr(0)), ret(vr(1)))), fn(0, 1, call(0, 1, con(n)), ret(vr(0)))), nil, nil, want)
	}
	// a value that is left of something else is no function's
	wantHalted(t, prog(0, fn(0, 1, set(0, con(9))), fn(0, 1, set(0, con(3)), call(0, 0), ret(vr(0)))), nil, nil, 0)
	wantHalted(t, prog(0, fn(0, 1, ret(con(9))), fn(0, 1, call(0, 0))), nil, nil, 0)
	wantHalted(t, of(1, 0, set(0, con(9)), fork(con(0), []api.Stmt{ret(con(1))}, nil)), nil, nil, 0)
}

// P15.3: conditions that are 0, 1, great, and great in the upper half alone; and loops that are not begun.
func TestConditions(t *testing.T) {
	for _, n := range edges() {
		for _, x := range []api.Expr{con(n), vr(0), load(con(0))} {
			want := uint64(6)
			if n != 0 {
				want = 5
			}
			wantHalted(t, of(1, 1, set(0, con(n)), fork(x, []api.Stmt{ret(con(5))}, []api.Stmt{ret(con(6))})), []uint64{n}, nil, want, n)
			wantHalted(t, of(1, 1, set(0, con(n)), fork(x, []api.Stmt{ret(con(5))}, nil), ret(con(6))), []uint64{n}, nil, want, n)
			wantHalted(t, of(1, 1, set(0, con(n)), fork(x, nil, []api.Stmt{ret(con(6))}), ret(con(5))), []uint64{n}, nil, want, n)
			wantHalted(t, of(1, 1, set(0, con(n)), while(x, ret(con(5))), ret(con(6))), []uint64{n}, nil, want, n)
			wantHalted(t, of(1, 1, set(0, con(n)), fork(x, nil, nil), ret(con(7))), []uint64{n}, nil, 7, n)
		}
	}
	wantHalted(t, of(1, 1, while(con(0), put(7, 7)), while(con(0)), ret(con(2))), nil, nil, 2, 0)
	wantHalted(t, of(1, 1, countdown(0, 0, put(7, 7))...), nil, nil, 0, 0)
	wantHalted(t, of(1, 1, countdown(0, 10, store(con(0), add(load(con(0)), vr(0))))...), nil, nil, 0, 55)
	wantTrapped(t, of(1, 1, while(fault())), nil, nil)
	wantTrapped(t, of(1, 1, fork(fault(), nil, nil)), nil, nil)
	// a condition that traps when it is asked the third time
	wantTrapped(t, of(1, 1, set(0, con(3)), while(bin(api.DIV, con(9), sub(vr(0), con(1))), set(0, sub(vr(0), con(1))))), nil, nil)
}

// P15.3: statements within statements as deep as may be, of if on both sides and of while.
func TestDeepStatements(t *testing.T) {
	for bits := range uint64(256) {
		body := []api.Stmt{store(con(0), add(load(con(0)), con(1))), ret(load(con(0)))}
		for k := range 7 {
			x := bin(api.AND, bin(api.SHR, con(bits), con(uint64(k))), con(1))
			other := []api.Stmt{store(con(1), add(load(con(1)), con(1<<k)))}
			switch k % 3 {
			case 0:
				body = []api.Stmt{fork(x, body, other)}
			case 1:
				body = []api.Stmt{fork(x, other, body)}
			default:
				body = []api.Stmt{while(x, body...)}
			}
			if k%3 == 2 {
				body = append([]api.Stmt{fork(x, nil, other)}, fork(x, []api.Stmt{ret(con(bits))}, nil), body[0])
			}
		}
		wantRight(t, of(0, 2, body...), nil, nil)
	}
	nested := []api.Stmt{store(con(0), add(load(con(0)), con(1)))}
	for v := range 7 {
		nested = []api.Stmt{while(bin(api.LTU, vr(v), con(2)), append(nested, set(v, add(vr(v), con(1))))...)}
		if v < 6 {
			nested = append([]api.Stmt{set(v, con(0))}, nested...)
		}
	}
	wantHalted(t, of(7, 1, nested...), nil, nil, 0, 128)
}

// P15.3: calls with 0, 1 and many arguments, each of which comes to its own variable.
func TestArguments(t *testing.T) {
	for _, params := range []int{0, 1, 2, 3, 31, 63, 64} {
		f := fn(params, 64)
		g := fn(0, 64)
		args := []api.Expr{}
		var want []uint64
		for v := range 64 {
			f.Body = append(f.Body, store(con(uint64(v)), vr(v)))
			g.Body = append(g.Body, set(v, con(uint64(1000+v))))
			n := uint64(0)
			if v < params {
				args = append(args, add(vr((v+1)%64), con(uint64(v)<<40)))
				n = uint64(1000+(v+1)%64) + uint64(v)<<40
			}
			want = append(want, n)
		}
		f.Body = append(f.Body, ret(con(77)))
		g.Body = append(g.Body, call(5, 0, args...), ret(add(vr(5), vr(6))))
		wantHalted(t, prog(64, f, g), nil, nil, 77+1006, want...)
	}
}

// P15.3: a variable that is set by a call and read by its arguments; arguments that are all worked out of what stood there ahead.
func TestCallsIntoTheirArguments(t *testing.T) {
	sums := fn(3, 3, ret(add(vr(0), add(bin(api.MUL, vr(1), con(10)), bin(api.MUL, vr(2), con(100))))))
	wantHalted(t, prog(0, sums, fn(0, 2, set(0, con(3)), set(1, con(4)), call(0, 0, vr(0), vr(1), vr(0)), call(0, 0, vr(0), vr(0), vr(1)), ret(vr(0)))), nil, nil, 343+3430+400)
	// the callee's variables, which it changes, are not the caller's
	own := fn(2, 3, set(0, add(vr(0), con(1))), set(1, con(0)), set(2, con(5)), ret(vr(0)))
	wantHalted(t, prog(1, own, fn(0, 3, set(0, con(1)), set(1, con(2)), set(2, con(3)), call(1, 0, vr(1), vr(2)), store(con(0), add(vr(0), add(bin(api.MUL, vr(1), con(10)), bin(api.MUL, vr(2), con(100))))))), nil, nil, 0, 331)
}

// P15.3: variables begin with noughts each time that a function is called, those that are handed in with what is handed in.
func TestVariablesBeginAnew(t *testing.T) {
	for vars := 1; vars <= 64; vars += 9 {
		for params := 0; params <= vars; params += 1 + vars/3 {
			f := fn(params, vars)
			sum := con(0)
			for v := range vars {
				f.Body = append(f.Body, store(con(0), add(load(con(0)), vr(v))), set(v, con(uint64(v)+1<<20)))
			}
			f.Body = append(f.Body, ret(sum))
			args := slices.Repeat([]api.Expr{vr(1)}, params)
			p := prog(1, f, fn(0, 2, countdown(1, 5, call(0, 0, args...), fork(vr(0), []api.Stmt{ret(con(9))}, nil))...))
			wantHalted(t, p, nil, nil, 0, uint64(params)*15)
		}
	}
	// within loops, and by callers of callers
	inner := fn(0, 1, set(0, add(vr(0), con(1))), ret(vr(0)))
	outer := fn(0, 2, call(1, 0), set(0, add(vr(0), vr(1))), call(1, 0), set(0, add(vr(0), vr(1))), ret(vr(0)))
	p := prog(2, inner, outer, fn(0, 2, countdown(0, 4, call(1, 1), store(con(0), add(load(con(0)), vr(1))), call(1, 0), store(con(1), add(load(con(1)), vr(1))))...))
	wantHalted(t, p, nil, nil, 0, 8, 4)
}

// P15.3: functions that call each other, 32 deep, and twice each, so that all ways back are found.
func TestDeepCalls(t *testing.T) {
	p := prog(1, fn(1, 1, store(con(0), add(load(con(0)), con(1))), ret(add(vr(0), con(1)))))
	for i := range 31 {
		p.Funcs = append(p.Funcs, fn(1, 2, call(1, i, add(vr(0), con(1))), ret(add(vr(1), vr(0)))))
	}
	p.Funcs[31].Params = 0
	wantHalted(t, p, nil, nil, 32+30*31/2, 1)
	twice := prog(1, fn(0, 0, store(con(0), add(load(con(0)), con(1))), ret(con(1))))
	for i := range 8 {
		twice.Funcs = append(twice.Funcs, fn(0, 2, call(0, i), call(1, i), ret(add(vr(0), vr(1)))))
	}
	wantHalted(t, twice, nil, nil, 256, 256)
	// all functions from one, each with a value of its own
	many := prog(0)
	last := fn(0, 31)
	sum := uint64(0)
	for i := range 31 {
		many.Funcs = append(many.Funcs, fn(1, 1, ret(bin(api.MUL, vr(0), con(uint64(i)+1)))))
		last.Body = append(last.Body, call(i, 30-i, con(uint64(i)+3)))
		sum += (uint64(i) + 3) * uint64(31-i)
	}
	for i := range 30 {
		last.Body = append(last.Body, set(0, add(vr(0), vr(i+1))))
	}
	last.Body = append(last.Body, ret(vr(0)))
	many.Funcs = append(many.Funcs, last)
	wantHalted(t, many, nil, nil, sum)
}

// P15.3: a trap deep inside ends the whole run.
func TestTrapsInside(t *testing.T) {
	for i, bad := range []api.Stmt{set(0, fault()), put(9, 1), ret(load(con(9))), set(0, bin(api.REM, con(1), vr(0))), plen(0, con(0)), pre(0, con(0), con(0)), hash(1, con(0), con(0), con(8)), while(fault()), fork(fault(), nil, nil)} {
		t.Run(fmt.Sprint(i), func(t *testing.T) {
			wantTrapped(t, of(1, 1, bad, ret(con(1))), nil, nil)
			wantTrapped(t, of(1, 1, while(con(1), fork(con(1), []api.Stmt{bad}, nil)), ret(con(1))), nil, nil)
			f := fn(0, 1, bad, ret(con(3)))
			wantTrapped(t, prog(1, f, fn(0, 1, call(0, 0), ret(con(1)))), nil, nil)
			wantTrapped(t, prog(1, f, fn(0, 1, while(con(1), call(0, 0))), fn(0, 1, call(0, 1), ret(con(1)))), nil, nil)
		})
	}
	wantTrapped(t, prog(0, fn(2, 2), fn(0, 1, call(0, 0, con(1), fault()))), nil, nil)
	wantTrapped(t, of(0, 2, store(fault(), con(1))), nil, nil)
	wantTrapped(t, of(0, 2, store(con(0), fault())), nil, nil)
	wantTrapped(t, of(0, 2, store(con(5), fault())), nil, nil)
}

// P15.3: data that are fewer than the program's, and what stood in the image where they stand.
func TestFewerData(t *testing.T) {
	p := of(0, 6, store(con(5), add(load(con(0)), load(con(3)))), ret(load(con(2))))
	i := wantImage(t, p)
	for n := range 7 {
		o := wantRightOf(t, p, i, numbered(n), nil)
		if o.Status != api.Halted || len(o.Data) != 6 {
			t.Errorf("%d words: %v", n, o)
		}
	}
	for at := range i.Data {
		i.Words[i.Base+at] = 99
	}
	for n := range 7 {
		wantRightOf(t, p, i, numbered(n), nil)
	}
}

// P15.3: what a program costs least: the bound of no node, of one, of no step.
func TestLeastBounds(t *testing.T) {
	for _, vars := range []int{0, 1, 63, 64} {
		for _, data := range []int{0, 1, 512, 1024} {
			wantRight(t, of(vars, data), nil, nil)
			wantRight(t, prog(data, fn(vars, vars), fn(0, vars)), nil, nil)
			wantRight(t, prog(data, fn(0, vars), fn(0, max(vars, 1), call(0, 0))), nil, nil)
			wantRight(t, prog(data, fn(0, vars), fn(0, max(vars, 1), call(0, 0), call(0, 0), call(0, 0))), nil, nil)
			chain := prog(data, fn(0, vars))
			for i := range 20 {
				chain.Funcs = append(chain.Funcs, fn(0, max(min(vars, 40), 1), call(0, i)))
			}
			wantRight(t, chain, nil, nil)
		}
	}
	wantRight(t, prog(0, fn(0, 64), fn(0, 64, countdown(1, 2000, call(0, 0))...)), nil, nil)
}
