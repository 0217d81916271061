package interp

import (
	"fmt"
	"testing"

	"proctor/api"
)

// wantAt asks for what a run came to where its fuel ended.
func wantAt(t *testing.T, p api.Prog, fuel int, data ...uint64) {
	t.Helper()
	if o := wantRun(t, p, nil, nil, fuel); !sameOutcome(o, api.Outcome{Status: api.Running, Data: data, Steps: fuel}) {
		t.Errorf("with fuel %d: %v, want data %v", fuel, o, data)
	}
}

// P14.1: fuel is taken ahead of what it is for: where none is left, nothing more is done.
func TestFuelEnds(t *testing.T) {
	flat := of(0, 3, put(0, 1), put(1, 1), put(2, 1))
	wantAt(t, flat, 0, 0, 0, 0)
	wantAt(t, flat, 1, 1, 0, 0)
	wantAt(t, flat, 2, 1, 1, 0)
	wantOutcome(t, "just behind the last statement", flat, nil, nil, halted(3, 0, 1, 1, 1))
	if o := wantRun(t, flat, nil, nil, 3); !sameOutcome(o, halted(3, 0, 1, 1, 1)) {
		t.Errorf("with just as much: %v", o)
	}

	rounds := of(1, 1, countdown(0, 2, put(0, 7))...)
	wantAt(t, rounds, 1, 0)
	wantAt(t, rounds, 2, 0)
	wantAt(t, rounds, 3, 7)
	wantAt(t, rounds, 4, 7)
	wantAt(t, rounds, 5, 7)
	wantAt(t, rounds, 7, 7)
	wantOutcome(t, "the last condition", rounds, nil, nil, halted(8, 0, 7))

	called := prog(2, fn(0, 0, put(0, 1), put(1, 1), ret(con(3))), fn(0, 1, call(0, 0), ret(vr(0))))
	wantAt(t, called, 1, 0, 0)
	wantAt(t, called, 2, 1, 0)
	wantAt(t, called, 3, 1, 1)
	wantAt(t, called, 4, 1, 1)
	wantOutcome(t, "called", called, nil, nil, halted(5, 3, 1, 1))

	// The fuel that would be for a trap is not there: it is not come to.
	wantAt(t, of(0, 1, put(0, 1), put(1, 1)), 1, 1)
	wantAt(t, of(0, 1, fork(fault(), nil, nil)), 0, 0)
	wantAt(t, of(0, 1, while(con(1), put(0, 5)), put(9, 9)), 2, 5)
	wantOutcome(t, "an empty if is a statement", of(0, 0, fork(con(1), nil, nil), fork(con(0), nil, nil)), nil, nil, halted(2, 0))
}

// P14.1: a while without an end takes all fuel that there is.
func TestNoEnd(t *testing.T) {
	for _, fuel := range []int{0, 1, 2, 3, 10, 1001} {
		wantAt(t, of(0, 0, while(con(1))), fuel)
		wantAt(t, of(0, 0, while(con(1), while(con(0)))), fuel)
		wantAt(t, prog(0, fn(0, 0, ret(con(1))), fn(0, 1, while(con(most), call(0, 0)))), fuel)
	}
	for i, p := range []api.Prog{of(0, 0, while(con(1))), prog(0, fn(0, 0, while(con(1), ret(con(1)))), fn(0, 1, while(con(1), call(0, 0)))), chain(32, while(con(1)))} {
		for _, fuel := range []int{1<<22 - 1, 1 << 22} {
			o, e := Run(p, nil, nil, fuel)
			if e != api.OK || o.Status != api.Running || o.Value != 0 || o.Steps != fuel {
				t.Errorf("%d: with fuel %d: %v, %d", i, fuel, o, e)
			}
		}
	}
}

// P14.1: a run that takes all fuel that may be, to the last of it.
func TestMostFuel(t *testing.T) {
	// It costs two to set the variable and to ask at first, and two for each round: 2^22 - 2 in all; each statement behind it costs one.
	body := countdown(0, (1<<22-4)/2)
	for behind := range 4 {
		p := of(1, 1, append(append(body, put(0, 1)), make([]api.Stmt, behind)...)...)
		for i := range behind {
			p.Funcs[0].Body[3+i] = put(0, uint64(2+i))
		}
		o, e := Run(p, nil, nil, 1<<22)
		want := halted(1<<22-1+behind, 0, uint64(1+behind))
		if behind > 1 {
			want = api.Outcome{Status: api.Running, Data: []uint64{2}, Steps: 1 << 22}
		}
		if e != api.OK || !sameOutcome(o, want) {
			t.Errorf("%d behind: %v, %d, want %v", behind, o, e, want)
		}
	}
}

// P14.2: with more fuel than it took, each run that came to an end is the same; with less it is Running.
func TestMoreFuel(t *testing.T) {
	for i, p := range []api.Prog{first(), chain(32, ret(con(1))), chain(5, put(99, 1)), of(2, 8, countdown(0, 9, countdown(1, 9, store(con(3), add(load(con(3)), vr(1))))...)...), of(0, 0), of(0, 0, ret(fault()))} {
		whole, e := Run(p, nil, nil, 9999)
		if e != api.OK || whole.Status == api.Running {
			t.Fatalf("%d: %v, %d", i, whole, e)
		}
		for fuel := range whole.Steps + 20 {
			o, e := Run(p, nil, nil, fuel)
			if e != api.OK || fuel >= whole.Steps && !sameOutcome(o, whole) || fuel < whole.Steps && (o.Status != api.Running || o.Steps != fuel) {
				t.Fatalf("%d: with fuel %d of %d: %v, %d", i, fuel, whole.Steps, o, e)
			}
		}
		for _, fuel := range []int{1 << 16, 1<<22 - 1, 1 << 22} {
			if o, e := Run(p, nil, nil, fuel); e != api.OK || !sameOutcome(o, whole) {
				t.Fatal(fmt.Sprint(i, ": with fuel ", fuel, ": ", o, e))
			}
		}
	}
}
