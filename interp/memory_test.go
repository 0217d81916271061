package interp

import (
	"bytes"
	"reflect"
	"slices"
	"testing"

	"proctor/api"
)

// roomy is a list with filled room behind its end.
func roomy[T any](l []T, filler T) []T {
	return append(slices.Clone(l), slices.Repeat([]T{filler}, 9)...)[:len(l)]
}

// loose is a program with filled room behind the end of each list.
func loose(p api.Prog) api.Prog {
	p.Funcs = roomy(p.Funcs, fn(0, 3, ret(con(76))))
	for i := range p.Funcs {
		p.Funcs[i].Body = looseStmts(p.Funcs[i].Body)
	}
	return p
}

func looseStmts(list []api.Stmt) []api.Stmt {
	list = roomy(list, ret(con(77)))
	for i := range list {
		s := &list[i]
		s.Args, s.Then, s.Else = looseExprs(s.Args), looseStmts(s.Then), looseStmts(s.Else)
	}
	return list
}

func looseExprs(list []api.Expr) []api.Expr {
	list = roomy(list, con(78))
	for i := range list {
		list[i].L = looseExprs(list[i].L)
	}
	return list
}

func looseKnown(known []api.Hashed) []api.Hashed {
	known = roomy(known, entry([]byte("room")))
	for i := range known {
		known[i].Bytes = roomy(known[i].Bytes, 79)
	}
	return known
}

// wholeProg, wholeKnown are copies, with the room behind lists as part of these.
func wholeProg(p api.Prog) api.Prog {
	p.Funcs = slices.Clone(p.Funcs[:cap(p.Funcs)])
	for i := range p.Funcs {
		p.Funcs[i].Body = wholeStmts(p.Funcs[i].Body)
	}
	return p
}

func wholeStmts(list []api.Stmt) []api.Stmt {
	list = slices.Clone(list[:cap(list)])
	for i := range list {
		s := &list[i]
		s.Args, s.Then, s.Else = wholeExprs(s.Args), wholeStmts(s.Then), wholeStmts(s.Else)
	}
	return list
}

func wholeExprs(list []api.Expr) []api.Expr {
	list = slices.Clone(list[:cap(list)])
	for i := range list {
		list[i].L = wholeExprs(list[i].L)
	}
	return list
}

func wholeKnown(known []api.Hashed) []api.Hashed {
	known = slices.Clone(known[:cap(known)])
	for i := range known {
		known[i].Bytes = bytes.Clone(known[i].Bytes[:cap(known[i].Bytes)])
	}
	return known
}

// busy is a program that has each kind of statement and of expression, and writes over its data.
func busy() (api.Prog, []uint64, []api.Hashed) {
	b := []byte("bytes that are known")
	p := prog(12,
		fn(2, 3, set(2, bin(api.MUL, vr(0), load(con(5)))), fork(vr(1), []api.Stmt{store(con(6), vr(2)), ret(add(vr(2), con(1)))}, []api.Stmt{plen(0, con(0))}), ret(vr(0))),
		fn(0, 3, append(countdown(0, 3, call(1, 0, vr(0), sub(vr(0), con(1))), store(add(vr(0), con(6)), vr(1))),
			pre(2, con(0), con(3)), store(con(7), vr(2)), hash(3, con(8), con(0), con(60)), hash(256, con(0), con(1), con(9)), put(5, most), ret(vr(1)))...))
	return p, slices.Concat(sumOf(b), []uint64{3, 4, 5, 6}), []api.Hashed{entry([]byte("other")), entry(b)}
}

// trapping is busy with a trap at its end.
func trapping() (api.Prog, []uint64, []api.Hashed) {
	p, data, known := busy()
	last := &p.Funcs[1].Body
	(*last)[len(*last)-1] = ret(fault())
	return p, data, known
}

// P14.1: what is handed in stays, the room behind its end too, whatever comes of it; and that room is not to be seen.
func TestArgumentsStay(t *testing.T) {
	for i, make := range []func() (api.Prog, []uint64, []api.Hashed){busy, trapping} {
		p, data, known := make()
		q, more, shelf := loose(p), roomy(data, 99), looseKnown(known)
		keptProg, keptData, keptKnown := wholeProg(q), slices.Clone(more[:cap(more)]), wholeKnown(shelf)
		whole := wantFuel(t, p, data, known)
		if whole.Status == api.Running || slices.Equal(whole.Data[:len(data)], data) {
			t.Fatalf("%d: %v", i, whole)
		}
		for _, fuel := range []int{-1, 0, 1, 7, whole.Steps - 1, whole.Steps, 1 << 22, 1<<22 + 1} {
			want, e := Run(p, data, known, fuel)
			if o, f := Run(q, more, shelf, fuel); f != e || !sameOutcome(o, want) {
				t.Errorf("%d, with fuel %d: %v, %d, want %v, %d", i, fuel, o, f, want, e)
			}
		}
		if !reflect.DeepEqual(wholeProg(q), keptProg) || !slices.Equal(more[:cap(more)], keptData) || !reflect.DeepEqual(wholeKnown(shelf), keptKnown) {
			t.Errorf("%d: the arguments did not stay", i)
		}
	}
}

// P14.1: data with room behind them are as many as they are: the rest begins with noughts.
func TestRoomIsNoData(t *testing.T) {
	all := []uint64{1, 2, 3, 4, 5, 6, 7, 8}
	for n := range 5 {
		want := append(slices.Clone(all[:n]), make([]uint64, 4-n)...)
		wantOutcome(t, "short data", of(0, 4), all[:n], nil, halted(0, 0, want...))
		want[3] = 9
		wantOutcome(t, "short data, written", of(0, 4, put(3, 9)), all[:n], nil, halted(1, 0, want...))
	}
	if !slices.Equal(all, []uint64{1, 2, 3, 4, 5, 6, 7, 8}) {
		t.Errorf("the data did not stay: %v", all)
	}
}

// P14.1: what is answered is new memory: changed answers change nothing, not the data that were handed in, and no other answer.
func TestOutcomesAreNew(t *testing.T) {
	for _, p := range []api.Prog{of(0, 4), of(0, 4, put(0, 7)), of(0, 4, put(4, 1)), of(0, 4, while(con(1)))} {
		data := []uint64{1, 2, 3, 4}
		x, _ := Run(p, data, nil, 5)
		y, _ := Run(p, data, nil, 5)
		kept := slices.Clone(y.Data)
		for i := range x.Data[:cap(x.Data)] {
			x.Data[:cap(x.Data)][i] = 55
		}
		if !slices.Equal(data, []uint64{1, 2, 3, 4}) || !slices.Equal(y.Data, kept) {
			t.Errorf("%v: shared: %v, %v", p, data, y)
		}
		for i := range data {
			data[i] = 66
		}
		if !slices.Equal(y.Data, kept) {
			t.Errorf("%v: shared with what was handed in: %v", p, y)
		}
	}
}

// P14.1: nothing is kept: what is changed between two calls is seen as it is then.
func TestChangedArguments(t *testing.T) {
	b := []byte("known bytes")
	known := []api.Hashed{entry(b)}
	data := sumOf(b)
	p := of(1, 4, plen(0, con(0)), ret(vr(0)))
	wantOutcome(t, "known", p, data, known, halted(2, 11, data...))
	b[0]++
	wantOutcome(t, "changed bytes", p, data, known, trapped(1, data...))
	b[0]--
	known[0].Sum[5]++
	wantOutcome(t, "changed sum", p, data, known, trapped(1, data...))
	known[0].Sum[5]--
	wantOutcome(t, "as before", p, data, known, halted(2, 11, data...))
	data[3]++
	wantOutcome(t, "changed data", p, data, known, trapped(1, data...))
	data[3]--
	p.Funcs[0].Body[1].Args[0] = con(8)
	wantOutcome(t, "changed program", p, data, known, halted(2, 8, data...))
	p.Funcs[0].Body[1].Kind = api.NoStmt
	wantError(t, "changed to no program", p, data, 9, api.ErrArg)
}
