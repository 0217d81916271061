package interp

import (
	"fmt"
	"slices"
	"testing"

	"proctor/api"
)

// first is chapter 13's first program.
func first() api.Prog {
	return prog(4, fn(1, 2, set(1, add(vr(0), con(1))), ret(vr(1))), fn(0, 1, call(0, 0, con(7)), store(con(0), vr(0))))
}

// The chapter's examples.
func TestExamples(t *testing.T) {
	for fuel, want := range map[int]api.Outcome{
		99: halted(4, 0, 8, 0, 0, 0),
		3:  {Status: api.Running, Data: make([]uint64, 4), Steps: 3},
		0:  {Status: api.Running, Data: make([]uint64, 4)},
	} {
		if o := wantRun(t, first(), nil, nil, fuel); !sameOutcome(o, want) {
			t.Errorf("with fuel %d: %v, want %v", fuel, o, want)
		}
	}
	wantOutcome(t, "an address that there is not", of(0, 4, put(9, 1)), nil, nil, trapped(1, 0, 0, 0, 0))
	wantOutcome(t, "the whole's fifth example", of(1, 1, set(0, con(8)), store(con(0), vr(0))), nil, nil, halted(2, 0, 8))
}

// P14.1: data are what is handed in, and noughts behind.
func TestData(t *testing.T) {
	for _, n := range []int{0, 1, 2, 3, 1023, 1024} {
		for _, given := range []int{0, 1, n / 2, n - 1, n} {
			if given < 0 || given > n {
				continue
			}
			data := slices.Repeat([]uint64{most}, given)
			want := append(slices.Clone(data), make([]uint64, n-given)...)
			wantOutcome(t, fmt.Sprint(given, " of ", n), of(0, n), data, nil, halted(0, 0, want...))
			if n > 0 {
				want[n-1] = 5
				wantOutcome(t, fmt.Sprint("the last of ", n), of(0, n, put(uint64(n-1), 5)), data, nil, halted(1, 0, want...))
			}
			wantOutcome(t, fmt.Sprint("the end of ", n), of(0, n, put(uint64(n), 5)), data[:0], nil, trapped(1, make([]uint64, n)...))
		}
	}
}

// P14.1: words are read at addresses that there are, and nowhere else; so they are written.
func TestAddresses(t *testing.T) {
	for _, n := range []int{0, 1, 2, 4, 1024} {
		data := make([]uint64, n)
		for i := range data {
			data[i] = uint64(1000 + i)
		}
		for _, at := range append(edges(), uint64(n), uint64(n)+1, uint64(n)-1, uint64(n)-2, 1<<32+1, 1<<63+2) {
			loaded, stored := trapped(1, data...), trapped(1, data...)
			if at < uint64(n) {
				loaded = halted(1, 1000+at, data...)
				changed := slices.Clone(data)
				changed[at] = 7
				stored = halted(1, 0, changed...)
			}
			wantOutcome(t, fmt.Sprintf("read at %d of %d", at, n), of(0, n, ret(load(con(at)))), data, nil, loaded)
			wantOutcome(t, fmt.Sprintf("written at %d of %d", at, n), of(0, n, put(at, 7)), data, nil, stored)
		}
	}
	// An address is reckoned as a word is: it wraps.
	wantOutcome(t, "wrapped", of(0, 2, ret(load(add(con(most), con(2))))), []uint64{5, 6}, nil, halted(1, 6, 5, 6))
	wantOutcome(t, "behind each other", of(0, 3, ret(load(load(load(con(0)))))), []uint64{2, 9, 1}, nil, halted(1, 9, 2, 9, 1))
}

// P14.1: variables begin with 0, and have what was set last.
func TestVariables(t *testing.T) {
	for _, vars := range []int{1, 2, 63, 64} {
		for v := range vars {
			wantOutcome(t, fmt.Sprint("not set: ", v), of(vars, 0, ret(vr(v))), nil, nil, halted(1, 0))
			wantOutcome(t, fmt.Sprint("set: ", v), of(vars, 0, set(v, con(9)), ret(vr(v))), nil, nil, halted(2, 9))
			if other := vars - 1 - v; other != v {
				wantOutcome(t, fmt.Sprint("another one set: ", v), of(vars, 0, set(v, con(9)), set(other, con(8)), ret(vr(v))), nil, nil, halted(3, 9))
			}
		}
	}
	swap := of(3, 0, set(0, con(1)), set(1, con(2)), set(2, vr(0)), set(0, vr(1)), set(1, vr(2)), ret(add(bin(api.MUL, vr(0), con(10)), vr(1))))
	wantOutcome(t, "changed places", swap, nil, nil, halted(6, 21))
	wantOutcome(t, "of itself", of(1, 0, set(0, con(5)), set(0, bin(api.MUL, vr(0), vr(0))), ret(vr(0))), nil, nil, halted(3, 25))
}

// P14.1: parts are worked out ahead of what they are parts of, the left one is the left one, up to the greatest depth.
func TestExpressions(t *testing.T) {
	for i, c := range []struct {
		x    api.Expr
		want uint64
	}{
		{sub(sub(con(10), con(3)), con(2)), 5},
		{sub(con(10), sub(con(3), con(2))), 9},
		{bin(api.SHL, con(1), bin(api.SHL, con(1), con(3))), 256},
		{bin(api.SHL, bin(api.SHL, con(1), con(1)), con(3)), 16},
		{bin(api.LTU, bin(api.DIV, con(9), con(2)), bin(api.REM, con(9), con(5))), 0},
		{add(load(con(1)), bin(api.MUL, load(con(2)), load(add(con(0), load(con(0)))))), 20 + 30*20},
	} {
		wantOutcome(t, fmt.Sprint("expression ", i), of(0, 3, ret(c.x)), []uint64{1, 20, 30}, nil, halted(1, c.want, 1, 20, 30))
	}
	left, right, both, well := con(1), con(1), con(1), con(0)
	for range 7 {
		left, right, both, well = add(left, con(1)), add(con(1), right), add(both, both), load(well)
	}
	wantOutcome(t, "deep to the left", of(0, 0, ret(left)), nil, nil, halted(1, 8))
	wantOutcome(t, "deep to the right", of(0, 0, ret(right)), nil, nil, halted(1, 8))
	wantOutcome(t, "deep on both sides", of(0, 0, ret(both)), nil, nil, halted(1, 128))
	wantOutcome(t, "a deep well", of(0, 8, ret(well)), []uint64{1, 2, 3, 4, 5, 6, 7, 8}, nil, halted(1, 7, 1, 2, 3, 4, 5, 6, 7, 8))
}

// P14.1: a trap ends the run at once, wherever in an expression it stands, and leaves what was written ahead of it.
func TestTraps(t *testing.T) {
	wrong := []api.Expr{
		fault(), bin(api.REM, con(0), con(0)), load(con(3)), load(con(most)), add(con(1), fault()), add(fault(), con(1)), load(fault()),
		bin(api.DIV, fault(), con(0)), bin(api.MUL, con(0), fault()), bin(api.AND, con(0), load(con(3))), sub(load(con(3)), fault()), add(fault(), load(con(9))),
	}
	three := []uint64{4, 5, 6}
	for i, x := range wrong {
		for j, s := range []api.Stmt{
			set(0, x), store(x, con(1)), store(con(1), x), store(x, x), fork(x, []api.Stmt{put(1, 1)}, []api.Stmt{put(1, 2)}), while(x, put(1, 1)), ret(x),
			call(0, 0, x, con(1)), call(0, 0, con(1), x), call(0, 0, x, x),
			hash(0, x, con(0), con(0)), hash(0, con(0), x, con(0)), hash(0, con(0), con(0), x), pre(0, x, con(0)), pre(0, con(0), x), plen(0, x),
		} {
			p := prog(3, fn(2, 2, put(1, 77)), fn(0, 1, put(0, 8), s, put(1, 9), put(2, 9)))
			wantOutcome(t, fmt.Sprintf("the trap %d in the statement %d", i, j), p, three, nil, trapped(2, 8, 5, 6))
		}
	}
	// The first of two traps is the one that counts.
	wantOutcome(t, "first of two", of(0, 3, put(0, 1), put(3, 1), put(1, 1), put(4, 1)), three, nil, trapped(2, 1, 5, 6))
	wantOutcome(t, "a trap ahead of a return", of(0, 3, put(3, 1), ret(con(1))), three, nil, trapped(1, three...))
	wantOutcome(t, "a return ahead of a trap", of(0, 3, ret(con(1)), put(3, 1)), three, nil, halted(1, 1, three...))
	wantOutcome(t, "within if", of(0, 3, fork(con(1), []api.Stmt{put(0, 1), put(3, 1)}, nil), put(1, 1)), three, nil, trapped(3, 1, 5, 6))
	wantOutcome(t, "within while", of(0, 3, while(con(1), put(0, 1), put(3, 0), put(1, 1)), put(2, 1)), three, nil, trapped(3, 1, 5, 6))
	wantOutcome(t, "in a condition that is asked again", of(1, 3, while(bin(api.DIV, con(6), sub(con(2), vr(0))), set(0, add(vr(0), con(1))), store(vr(0), con(1))), put(0, 2)), three, nil, trapped(7, 4, 1, 1))
	wantOutcome(t, "in a called function", prog(3, fn(0, 0, put(0, 1), put(3, 1), put(1, 1)), fn(0, 1, call(0, 0), put(2, 1))), three, nil, trapped(3, 1, 5, 6))
}

// P14.1: of if one side is done; whatever is not 0 is true.
func TestIf(t *testing.T) {
	for _, x := range edges() {
		value, steps := uint64(1), 2
		if x == 0 {
			value, steps = 2, 3
		}
		p := of(1, 0, fork(con(x), []api.Stmt{ret(con(1))}, []api.Stmt{set(0, con(2)), ret(vr(0))}), ret(con(3)))
		wantOutcome(t, fmt.Sprint("if ", x), p, nil, nil, halted(steps, value))
		wantOutcome(t, "no sides", of(0, 0, fork(con(x), nil, nil), ret(con(3))), nil, nil, halted(2, 3))
	}
	nested := of(1, 1, fork(con(0), []api.Stmt{put(0, 1)}, []api.Stmt{fork(con(1), []api.Stmt{put(0, 2)}, []api.Stmt{put(0, 3)}), set(0, con(4))}), ret(vr(0)))
	wantOutcome(t, "within if", nested, nil, nil, halted(5, 4, 2))
	// The condition is asked once: what Then does to it is not to be seen.
	wantOutcome(t, "its own condition", of(1, 1, fork(bin(api.EQ, vr(0), con(0)), []api.Stmt{set(0, con(1))}, []api.Stmt{put(0, 9)}), ret(vr(0))), nil, nil, halted(3, 1, 0))
}

// countdown is a while that goes round so often, and does something each time.
func countdown(v int, rounds uint64, body ...api.Stmt) []api.Stmt {
	return []api.Stmt{set(v, con(rounds)), while(vr(v), append(body, set(v, sub(vr(v), con(1))))...)}
}

// P14.1: a while goes round as long as its condition is not 0; it costs one for each time that it asks.
func TestWhile(t *testing.T) {
	wantOutcome(t, "false at once", of(0, 1, while(con(0), put(0, 1)), ret(con(5))), nil, nil, halted(2, 5, 0))
	for rounds := range 20 {
		n := uint64(rounds)
		body := append(countdown(0, n, store(con(0), add(load(con(0)), vr(0)))), ret(vr(0)))
		wantOutcome(t, fmt.Sprint(n, " rounds"), of(1, 1, body...), nil, nil, halted(3+3*rounds, 0, n*(n+1)/2))
		body = countdown(0, n, countdown(1, 3, store(con(0), add(load(con(0)), con(1))))...)
		wantOutcome(t, fmt.Sprint(n, " times 3 rounds"), of(2, 1, body...), nil, nil, halted(2+rounds*(2+3*3+2), 0, 3*n))
	}
	empty := of(1, 0, set(0, con(7)), while(con(0)), while(bin(api.EQ, vr(0), con(0))), ret(vr(0)))
	wantOutcome(t, "without Then", empty, nil, nil, halted(4, 7))
	wantOutcome(t, "left by a return", of(1, 0, while(con(1), set(0, add(vr(0), con(1))), fork(bin(api.EQ, vr(0), con(4)), []api.Stmt{ret(vr(0))}, nil)), ret(con(1))), nil, nil, halted(1+3*4, 4))
}

// P14.1: a return leaves all that stands around it in its function.
func TestReturn(t *testing.T) {
	for _, n := range edges() {
		wantOutcome(t, fmt.Sprint("return ", n), of(0, 1, ret(con(n)), put(0, 1), ret(con(n+1))), nil, nil, halted(1, n, 0))
	}
	body := []api.Stmt{ret(con(6)), put(0, 1)}
	for depth := 2; depth <= 8; depth++ {
		for kind := range 3 {
			around := fork(con(1), body, []api.Stmt{put(0, 2)})
			switch kind {
			case 1:
				around = fork(con(0), []api.Stmt{put(0, 3)}, body)
			case 2:
				around = while(con(1), body...)
			}
			wantOutcome(t, fmt.Sprintf("kind %d, %d deep", kind, depth), of(0, 1, around, put(0, 4)), nil, nil, halted(depth, 6, 0))
			called := prog(1, fn(0, 0, around, put(0, 4)), fn(0, 1, call(0, 0), store(con(0), vr(0)), ret(con(5))))
			wantOutcome(t, fmt.Sprintf("kind %d, %d deep, called", kind, depth), called, nil, nil, halted(depth+3, 5, 6))
		}
		body = []api.Stmt{[]api.Stmt{fork(con(1), body, nil), fork(con(0), nil, body), while(con(1), body...)}[depth%3], put(0, 5)}
	}
}

// P14.1: a function without a return has the value 0; so has one whose return is not come to.
func TestNoReturn(t *testing.T) {
	wantOutcome(t, "nothing", of(0, 0), nil, nil, halted(0, 0))
	wantOutcome(t, "no return", of(1, 0, set(0, con(9))), nil, nil, halted(1, 0))
	for i, f := range []api.Func{fn(0, 0), fn(0, 1, set(0, con(9))), fn(0, 0, fork(con(0), []api.Stmt{ret(con(4))}, nil)), fn(0, 0, while(con(0), ret(con(4)))), fn(0, 0, ret(con(0)))} {
		p := prog(0, f, fn(0, 1, set(0, con(5)), call(0, 0), ret(add(vr(0), con(1)))))
		wantOutcome(t, fmt.Sprint("function ", i), p, nil, nil, halted(3+len(f.Body), 1))
	}
}

// P14.1: arguments are the first variables, in their order; the others are 0, each time; the caller's own stay.
func TestCalls(t *testing.T) {
	for _, params := range []int{0, 1, 2, 3, 10, 63, 64} {
		for _, vars := range []int{params, params + 1, 64} {
			if vars > 64 {
				continue
			}
			p, want := echo(params, vars)
			wantOutcome(t, fmt.Sprintf("%d of %d", params, vars), p, nil, nil, halted(vars+1, 0, want...))
		}
	}
	digits := fn(3, 3, ret(add(bin(api.MUL, add(bin(api.MUL, vr(0), con(10)), vr(1)), con(10)), vr(2))))
	wantOutcome(t, "from the left", prog(0, digits, fn(0, 1, call(0, 0, con(1), con(2), con(3)), ret(vr(0)))), nil, nil, halted(3, 123))
	wantOutcome(t, "of its own variable", prog(0, digits, fn(0, 2, set(1, con(4)), call(1, 0, vr(1), add(vr(1), con(1)), vr(0)), ret(vr(1)))), nil, nil, halted(4, 450))
	wantOutcome(t, "again", prog(0, digits, fn(0, 1, set(0, con(1)), call(0, 0, vr(0), vr(0), vr(0)), call(0, 0, vr(0), vr(0), vr(0)), ret(vr(0)))), nil, nil, halted(6, 12321))
	greedy := fn(1, 3, set(0, add(vr(0), con(1))), set(1, add(vr(1), vr(0))), set(2, add(vr(2), vr(1))), ret(vr(2)))
	body := []api.Stmt{set(0, con(1)), set(1, con(2)), set(2, con(3)), call(3, 0, vr(1)), call(4, 0, vr(1)), ret(add(add(vr(0), vr(1)), bin(api.MUL, con(100), add(vr(2), add(vr(3), vr(4))))))}
	wantOutcome(t, "variables of its own", prog(0, greedy, fn(0, 5, body...)), nil, nil, halted(6+8, 3+100*(3+3+3)))
	wantOutcome(t, "data are everybody's", prog(1, fn(0, 0, store(con(0), add(load(con(0)), con(1)))), fn(0, 1, call(0, 0), call(0, 0), ret(load(con(0))))), []uint64{5}, nil, halted(5, 7, 7))
	// A variable is set behind the call: what the function writes is seen by no argument.
	wantOutcome(t, "arguments ahead of the call", prog(1, fn(1, 1, put(0, 9), ret(vr(0))), fn(0, 1, call(0, 0, load(con(0))), ret(vr(0)))), []uint64{5}, nil, halted(4, 5, 9))
}

// echo is a program whose first function stores all its variables, and the data that come of it.
func echo(params, vars int) (api.Prog, []uint64) {
	var body []api.Stmt
	var args []api.Expr
	want := slices.Repeat([]uint64{0}, 64)
	for v := range vars {
		body = append(body, store(con(uint64(v)), add(vr(v), con(1000))))
		want[v] = 1000
	}
	for v := range params {
		args = append(args, con(uint64(7*v+1)))
		want[v] = 1000 + uint64(7*v+1)
	}
	return prog(64, fn(params, vars, body...), fn(0, 1, call(0, 0, args...))), want
}

// chain is a program of so many functions, each of which calls the one ahead of it, notes that it did, and adds one; the first one does what it is told.
func chain(count int, body ...api.Stmt) api.Prog {
	p := prog(40, fn(0, 1, body...))
	for i := 1; i < count; i++ {
		p.Funcs = append(p.Funcs, fn(0, 1, call(0, i-1), put(uint64(i), 1), ret(add(vr(0), con(1)))))
	}
	return p
}

// P14.1: what happens deep within calls: a return leaves one, a trap and the end of fuel leave them all.
func TestDeepCalls(t *testing.T) {
	for _, n := range []int{1, 2, 3, 31, 32} {
		done := make([]uint64, 40)
		for i := 1; i < n; i++ {
			done[i] = 1
		}
		wantOutcome(t, fmt.Sprint(n, " deep, returns"), chain(n, ret(con(100))), nil, nil, halted(1+3*(n-1), 99+uint64(n), done...))
		wantOutcome(t, fmt.Sprint(n, " deep, falls out"), chain(n), nil, nil, halted(3*(n-1), uint64(n-1), done...))
		left := make([]uint64, 40)
		left[39] = 5
		wantOutcome(t, fmt.Sprint(n, " deep, traps"), chain(n, put(39, 5), put(40, 5)), nil, nil, trapped(n+1, left...))
		for _, fuel := range []int{n - 1, n, n + 1, 1000} {
			o := wantRun(t, chain(n, put(39, 5), while(con(1))), nil, nil, fuel)
			if o.Status != api.Running || o.Steps != fuel || o.Value != 0 || o.Data[39] != map[bool]uint64{true: 5, false: 0}[fuel >= n] {
				t.Errorf("%d deep, with fuel %d: %v", n, fuel, o)
			}
		}
	}
	// Many returns within calls within rounds.
	twice := prog(1, fn(1, 1, ret(add(vr(0), vr(0)))), fn(1, 1, call(0, 0, vr(0)), call(0, 0, vr(0)), ret(vr(0))), fn(0, 2, append(countdown(0, 20, call(1, 1, add(vr(1), con(1)))), ret(vr(1)))...))
	want := uint64(0)
	for range 20 {
		want = 4 * (want + 1)
	}
	wantOutcome(t, "returns in rounds", twice, nil, nil, halted(2+20*8+1, want, 0))
}
