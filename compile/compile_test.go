package compile

import (
	"fmt"
	"slices"
	"testing"

	"proctor/api"
	"proctor/ir"
)

// filled is a list of a statement over and over, of at most so many nodes; the nodes that are left are calls of the function 0, which has no Params.
func filled(nodes int, s api.Stmt) []api.Stmt {
	each, _ := ir.Nodes(prog(4, fn(0, 0), fn(0, 64, s)))
	l := slices.Repeat([]api.Stmt{s}, nodes/each)
	return append(l, slices.Repeat([]api.Stmt{call(0, 0)}, nodes%each)...)
}

// fillers are statements of each kind that take much room, of whatever function of 64 variables.
func fillers() []api.Stmt {
	great, far := con(1<<63+5), con(1<<32+2)
	wide := great
	for range 7 {
		wide = add(wide, great)
	}
	chain := vr(63)
	for range 7 {
		chain = load(chain)
	}
	return []api.Stmt{
		set(63, great), set(63, load(far)), set(0, wide), set(0, chain), set(0, load(con(0))), store(great, great), store(chain, wide), store(con(1), con(2)),
		fork(great, nil, nil), fork(con(0), []api.Stmt{set(1, great)}, []api.Stmt{fork(con(0), nil, nil)}), while(con(0)), while(bin(api.AND, vr(3), great), set(4, great)),
		ret(great), call(63, 0), hash(256, great, far, great), hash(0, con(0), vr(2), vr(3)), hash(255, chain, chain, wide), pre(7, great, great), pre(7, chain, wide), plen(1, great), plen(1, chain),
	}
}

// spread is a program of 512 variables and Data 512, whose last function has 64 of these, and a body of so many nodes; ahead of it stand functions of so many variables each, and of nothing else.
func spread(each, nodes int, s api.Stmt) api.Prog {
	p := prog(512)
	for range (512 - 64) / each {
		p.Funcs = append(p.Funcs, fn(0, each))
	}
	p.Funcs = append(p.Funcs, fn(0, 64, filled(nodes, s)...))
	return p
}

// P15.1: 200 nodes, Data 512 and 512 variables together always fit, whatever they are; and P15.3 holds of them.
func TestWhatMustFit(t *testing.T) {
	for k, s := range fillers() {
		for _, each := range []int{64, 32, 16} {
			p := spread(each, 200, s)
			n, e := ir.Nodes(p)
			if n != 200 || e != api.OK || variablesOf(p) != 512 || !mustFit(p) {
				t.Fatalf("%d, %d to a function: %d nodes, %d variables, %d", k, each, n, variablesOf(p), e)
			}
			for _, data := range [][]uint64{nil, slices.Repeat([]uint64{1}, 512), numbered(512)} {
				wantRight(t, p, data, nil)
			}
		}
	}
}

// P15.1: 512 variables in 8 functions that call each other, of 25 nodes each, and Data 512.
func TestAllThreeLimits(t *testing.T) {
	p := prog(512)
	for i := range 8 {
		below := call(62, i-1)
		if i == 0 {
			below = fork(con(0), nil, nil)
		}
		body := []api.Stmt{
			set(63, add(vr(1), vr(62))), below, set(1, add(vr(62), con(1))),
			put(uint64(511-i), 1<<63), store(con(uint64(i)), vr(63)), fork(con(0), nil, nil), while(con(0)), ret(add(vr(1), con(1<<40))),
		}
		p.Funcs = append(p.Funcs, fn(0, 64, body...))
	}
	last := &p.Funcs[7].Body
	for n, _ := ir.Nodes(p); n < 200; n++ {
		*last = append(*last, call(0, 0))
	}
	if n, _ := ir.Nodes(p); n != 200 || variablesOf(p) != 512 || p.Data != 512 {
		t.Fatalf("%d nodes, %d variables", n, variablesOf(p))
	}
	want := numbered(512)
	for i := range 8 {
		want[i], want[511-i] = 0, 1<<63
	}
	wantHalted(t, p, numbered(512), nil, 8*(1<<40+1), want...)
}

// wantMayFit asks of a program that may be above a limit that it has an image for which P15.3 holds, or none.
func wantMayFit(t *testing.T, name string, p api.Prog, data []uint64) bool {
	t.Helper()
	i, e := Compile(p)
	if e == api.ErrLimit && !mustFit(p) {
		if len(i.Words) != 0 || i.Base != 0 || i.Data != 0 {
			t.Errorf("%s: an image beside the error", name)
		}
		if j, e := Compile(p); e != api.ErrLimit || len(j.Words) != 0 {
			t.Errorf("%s: once more: %d", name, e)
		}
		return false
	}
	if e != api.OK {
		t.Fatalf("%s: %d", name, e)
	}
	wantRight(t, p, data, nil)
	return true
}

// P15.1: one more of each, and of all: an image or ErrLimit.
func TestOneMore(t *testing.T) {
	for k, s := range fillers() {
		name := fmt.Sprint("the filler ", k)
		wantMayFit(t, name+", 201 nodes", spread(64, 201, s), nil)
		p := spread(64, 200, s)
		p.Data = 513
		wantMayFit(t, name+", 513 words", p, numbered(513))
		p = spread(64, 200, s)
		p.Funcs = slices.Insert(p.Funcs, 1, fn(1, 1))
		wantMayFit(t, name+", 513 variables", p, nil)
		p = spread(64, 201, s)
		p.Data = 513
		p.Funcs = slices.Insert(p.Funcs, 1, fn(1, 1))
		wantMayFit(t, name+", all three", p, nil)
	}
}

// P15.1: programs that grow until they don't fit any more, node by node, word by word, variable by variable.
func TestGrowing(t *testing.T) {
	fit := map[bool]int{}
	for _, s := range fillers() {
		for _, nodes := range []int{300, 600, 1000, 1500, 2000, 3000, 4096} {
			for _, data := range []int{0, 600, 1024} {
				p := prog(data, fn(0, 0), fn(0, 64, filled(nodes, s)...))
				fit[wantMayFit(t, fmt.Sprint(nodes, " nodes, data ", data), p, nil)]++
			}
		}
	}
	for funcs := 1; funcs <= 32; funcs++ {
		p := prog(1024)
		for range funcs {
			p.Funcs = append(p.Funcs, fn(0, 64))
		}
		fit[wantMayFit(t, fmt.Sprint(funcs, " functions"), p, nil)]++
	}
	if fit[true] < 50 || fit[false] < 50 {
		t.Errorf("%v", fit)
	}
}

// P15.1: programs at the place where they fit no more: an image of all 4096 words, with hardly a word between its code and its data.
func TestJustFits(t *testing.T) {
	body := []api.Stmt{}
	p := func() api.Prog { return of(1, 1024, append(slices.Clone(body), ret(load(con(1023))))...) }
	for {
		body = append(body, set(0, con(1<<63)))
		if n, _ := ir.Nodes(p()); n > 4096 {
			t.Fatal("all fit")
		}
		if !wantMayFit(t, "just one more", p(), numbered(1024)) {
			break
		}
	}
	body = body[1:]
	if i := wantImage(t, p()); len(i.Words) != 4096 {
		t.Errorf("%d words", len(i.Words))
	}
	wantHalted(t, p(), numbered(1024), nil, numbered(1024)[1023], numbered(1024)...)
}

// P15.1: a program of 4096 nodes that take three words each has no image.
func TestNoRoom(t *testing.T) {
	full := of(1, 1024, slices.Repeat([]api.Stmt{set(0, con(1<<63))}, 2048)...)
	if i, e := Compile(full); e != api.ErrLimit || len(i.Words) != 0 || i.Base != 0 || i.Data != 0 {
		t.Errorf("Compile: %d words, %d", len(i.Words), e)
	}
}

// P15.1: a program that has no room and may not be is one that may not be.
func TestNoRoomAndWrong(t *testing.T) {
	body := slices.Repeat([]api.Stmt{set(0, con(1<<63))}, 2047)
	if _, e := Compile(of(1, 1024, body...)); e != api.ErrLimit {
		t.Errorf("Compile: %d", e)
	}
	for k, p := range []api.Prog{
		of(1, 1024, append(body, set(1, con(1)))...), of(1, 1025, body...), of(65, 1024, body...), of(1, 1024, append(body, set(0, con(1)), call(0, 0))...),
		prog(1024, fn(0, 1, body...), fn(1, 1)), prog(1024, fn(0, 1, body...), fn(0, 1, call(0, 1))),
	} {
		if i, e := Compile(p); e != api.ErrArg || len(i.Words) != 0 || i.Base != 0 || i.Data != 0 {
			t.Errorf("%d: Compile: %d words, %d", k, len(i.Words), e)
		}
	}
}

// P15.1: Data of every number, alone.
func TestDataOfAllNumbers(t *testing.T) {
	for n := range 1025 {
		p := of(1, n, set(0, con(uint64(n))), while(vr(0), set(0, sub(vr(0), con(1))), store(vr(0), add(load(vr(0)), con(1)))), ret(con(5)))
		i := wantImage(t, p)
		if n < 70 || n%50 < 2 || n > 1000 {
			if o := wantRightOf(t, p, i, numbered(n), nil); o.Status != api.Halted || o.Value != 5 {
				t.Errorf("Data %d: %v", n, o)
			}
		}
	}
}
