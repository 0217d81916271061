package compile

import (
	"fmt"
	"math"
	"slices"
	"testing"

	"proctor/api"
	"proctor/vm"
)

// The chapter's examples.
func TestExamples(t *testing.T) {
	p := first13()
	i := wantImage(t, p)
	m, _ := Start(i)
	m, _, _ = vm.Run(m, nil, 1<<22)
	if o, e := Result(i, m); o.Status != api.Halted || o.Value != 0 || !slices.Equal(o.Data, []uint64{8, 0, 0, 0}) || o.Steps != 0 || e != api.OK {
		t.Errorf("Result = %v, %d", o, e)
	}
	if m, e := Start(i, 1, 2, 3, 4, 5); e != api.ErrArg || !vm.Same(m, api.Machine{}) {
		t.Errorf("Start of five words: %d", e)
	}
	if n, e := Bound(p, 4); n != 1920 || e != api.OK {
		t.Errorf("Bound = %d, %d", n, e)
	}
	if i, e := Compile(api.Prog{}); e != api.ErrArg || len(i.Words) != 0 || i.Base != 0 || i.Data != 0 {
		t.Errorf("Compile of a program that may not be: %v, %d", i, e)
	}
}

// numbered are so many words that are all unlike, and none 0.
func numbered(n int) []uint64 {
	l := make([]uint64, n)
	for i := range l {
		l[i] = uint64(i) + 1<<40 + 1
	}
	return l
}

// sizes are numbers of words, of memories that may be and of such that may not.
func sizes() []int {
	l := []int{4095, 4097, 8191, 8192, 8193, 1 << 14, 1 << 16}
	for n := range 70 {
		l = append(l, n)
	}
	for n := 64; n <= 4096; n *= 2 {
		l = append(l, n-1, n, n+1)
	}
	return l
}

// places are numbers for Base and Data of an image of so many words.
func places(n int) []int {
	return []int{math.MinInt, math.MinInt + 1, math.MinInt32, -n - 1, -n, -2, -1, 0, 1, 2, n/2 - 1, n / 2, n/2 + 1, n - 2, n - 1, n, n + 1, 2 * n, 4096, 1 << 32, math.MaxInt - n, math.MaxInt - n + 1, math.MaxInt - 1, math.MaxInt}
}

// wantStart holds Start of an image and data against the chapter's words.
func wantStart(t *testing.T, i api.Image, data []uint64) {
	t.Helper()
	m, e := Start(i, data...)
	if !imageBy(i) || len(data) > i.Data {
		if e != api.ErrArg || !vm.Same(m, api.Machine{}) {
			t.Fatalf("Start of %d words, Base %d, Data %d, with %d: %d", len(i.Words), i.Base, i.Data, len(data), e)
		}
		return
	}
	if e != api.OK || !vm.Same(m, startBy(i, data)) {
		t.Fatalf("Start of %d words, Base %d, Data %d, with %d: %d, %v", len(i.Words), i.Base, i.Data, len(data), e, m)
	}
}

// wantResult holds Result against the chapter's words.
func wantResult(t *testing.T, i api.Image, m api.Machine) {
	t.Helper()
	o, e := Result(i, m)
	if !imageBy(i) || m.Status > api.Trapped || len(m.Mem) != len(i.Words) {
		if e != api.ErrArg || o.Status != 0 || o.Value != 0 || len(o.Data) != 0 || o.Steps != 0 {
			t.Fatalf("Result of %d words, Base %d, Data %d, of a machine of %d, Status %d: %v, %d", len(i.Words), i.Base, i.Data, len(m.Mem), m.Status, o, e)
		}
		return
	}
	var value uint64
	if m.Status == api.Halted {
		value = m.Regs[1]
	}
	var data []uint64
	for at := range i.Data {
		data = append(data, m.Mem[i.Base+at])
	}
	if e != api.OK || o.Status != m.Status || o.Value != value || !slices.Equal(o.Data, data) || o.Steps != 0 {
		t.Fatalf("Result of %d words, Base %d, Data %d, Status %d: %v, %d", len(i.Words), i.Base, i.Data, m.Status, o, e)
	}
}

// machineOf is a machine whose memory has these words, and whose registers are all unlike.
func machineOf(words []uint64, status api.Status) api.Machine {
	m := api.Machine{PC: 3, Status: status, Mem: words}
	for i := range m.Regs {
		m.Regs[i] = 1000 + uint64(i)
	}
	return m
}

// P15.2: images of all sizes, with Base and Data at all edges, those whose sum wraps too.
func TestImagesThatMayBe(t *testing.T) {
	count := map[bool]int{}
	for _, n := range sizes() {
		words := numbered(n)
		for _, base := range places(n) {
			for _, data := range places(n) {
				i := api.Image{Words: words, Base: base, Data: data}
				count[imageBy(i)]++
				wantStart(t, i, nil)
				wantResult(t, i, machineOf(words, api.Halted))
			}
		}
	}
	if count[true] < 200 || count[false] < 20000 {
		t.Errorf("%v", count)
	}
	wantStart(t, api.Image{}, nil)
	wantResult(t, api.Image{}, api.Machine{})
}

// P15.2: no data, as many as the image has, one more; whatever stood there is gone.
func TestStartWithData(t *testing.T) {
	for _, n := range []int{1, 2, 4, 8, 64, 4096} {
		for _, base := range []int{0, 1, 2, n / 2, n - 2, n - 1, n} {
			for _, has := range []int{0, 1, 2, 3, n - base, n - base - 1} {
				i := api.Image{Words: numbered(n), Base: base, Data: has}
				for _, given := range []int{0, 1, 2, has - 1, has, has + 1, has + 2, n, n + 1, 5000} {
					if given >= 0 {
						wantStart(t, i, slices.Repeat([]uint64{7, most}, given)[:given])
					}
				}
			}
		}
	}
	m, e := Start(api.Image{Words: []uint64{1, 2, 3, 4}, Base: 1, Data: 2}, 9)
	if e != api.OK || !vm.Same(m, api.Machine{Mem: []uint64{1, 9, 0, 4}}) {
		t.Errorf("Start = %v, %d", m, e)
	}
}

// P15.2: an image that may not be and too many data are one error, alone or both.
func TestStartWithBothWrong(t *testing.T) {
	for _, i := range []api.Image{{Words: make([]uint64, 3), Data: 1}, {Words: make([]uint64, 4), Base: 4, Data: 1}, {Words: make([]uint64, 4), Data: -1}, {Words: make([]uint64, 4), Base: math.MaxInt, Data: math.MaxInt}, {Words: make([]uint64, 4), Base: -1, Data: 5}, {Words: make([]uint64, 4), Base: math.MinInt, Data: math.MinInt}} {
		for _, data := range [][]uint64{nil, {}, {1}, {1, 2}, make([]uint64, 9000)} {
			wantStart(t, i, data)
		}
	}
}

// P15.2: machines of each Status and of each number of words.
func TestResults(t *testing.T) {
	for _, n := range []int{1, 2, 4, 8, 64, 4096} {
		for _, base := range []int{0, 1, n / 2, n - 1, n} {
			for _, has := range []int{0, 1, n - base, n - base + 1} {
				i := api.Image{Words: make([]uint64, n), Base: base, Data: has}
				for status := range 256 {
					wantResult(t, i, machineOf(numbered(n), api.Status(status)))
				}
				for _, other := range []int{0, 1, 2, 3, n - 1, n + 1, 2 * n, n / 2, 4096, 8192} {
					for status := range api.Status(4) {
						wantResult(t, i, machineOf(numbered(other), status))
					}
				}
			}
		}
	}
	i := api.Image{Words: make([]uint64, 4), Base: 2, Data: 2}
	m := machineOf([]uint64{5, 6, 7, 8}, api.Halted)
	for _, c := range []struct {
		status api.Status
		value  uint64
	}{{api.Running, 0}, {api.Halted, 1001}, {api.Trapped, 0}} {
		m.Status = c.status
		if o, e := Result(i, m); e != api.OK || o.Status != c.status || o.Value != c.value || !slices.Equal(o.Data, []uint64{7, 8}) || o.Steps != 0 {
			t.Errorf("Status %d: %v, %d", c.status, o, e)
		}
	}
}

// P15.2: the bound, of steps at all edges: just MaxFuel, one more, a product that wraps.
func TestBound(t *testing.T) {
	for _, nodes := range []int{0, 1, 2, 3, 7, 10, 31, 63, 127, 199, 200, 255, 1023, 2047, 4094, 4095, 4096} {
		p := withNodes(nodes)
		edge := 1<<22/(32*(nodes+1)) - 1
		for _, steps := range []int{0, 1, 2, 3, 100, edge - 1, edge, edge + 1, edge + 2, 1<<17 - 1, 1 << 17, 1 << 22, 1<<22 + 1, 1 << 31, 1 << 32, 1<<59 - 1, 1 << 59, 1<<60 - 1, 1 << 62, math.MaxInt - 1, math.MaxInt} {
			want, ok := boundBy(nodes, steps)
			if !ok {
				want = 0
			}
			n, e := Bound(p, steps)
			if ok && e != api.OK || !ok && e != api.ErrLimit || n != want {
				t.Errorf("%d nodes, %d steps: %d, %d, want %d", nodes, steps, n, e, want)
			}
		}
		for _, steps := range []int{-1, -2, -1 << 22, math.MinInt32, math.MinInt + 1, math.MinInt} {
			if n, e := Bound(p, steps); n != 0 || e != api.ErrArg {
				t.Errorf("%d nodes, %d steps: %d, %d", nodes, steps, n, e)
			}
		}
	}
	if n, e := Bound(of(0, 0), 1<<17-1); n != 1<<22 || e != api.OK {
		t.Errorf("just MaxFuel: %d, %d", n, e)
	}
}

// withNodes is a program of so many nodes.
func withNodes(n int) api.Prog {
	p := prog(0, fn(0, 0), fn(0, 1))
	body := &p.Funcs[1].Body
	for ; n > 1; n -= 2 {
		*body = append(*body, set(0, con(1)))
	}
	if n == 1 {
		*body = append(*body, call(0, 0))
	}
	return p
}

// P15.1, P15.2: programs that may not be are found ahead of all else.
func TestProgramsThatMayNotBe(t *testing.T) {
	for k, p := range wrongs() {
		if i, e := Compile(p); e != api.ErrArg || len(i.Words) != 0 || i.Base != 0 || i.Data != 0 {
			t.Errorf("%d: Compile: %d words, %d, %d, %d", k, len(i.Words), i.Base, i.Data, e)
		}
		for _, steps := range []int{math.MinInt, -1, 0, 1, 1 << 22, math.MaxInt} {
			if n, e := Bound(p, steps); n != 0 || e != api.ErrArg {
				t.Errorf("%s: Bound = %d, %d", fmt.Sprint(k, ", ", steps), n, e)
			}
		}
	}
}

// within are lists that stand within themselves, as programs.
func within() []api.Prog {
	self := []api.Stmt{while(con(1))}
	self[0].Then = self
	sides := []api.Stmt{fork(con(1), nil, nil), fork(con(0), nil, nil)}
	sides[0].Then, sides[0].Else, sides[1].Else = sides, sides, sides
	one := []api.Expr{{Kind: api.ELoad}}
	one[0].L = one
	two := []api.Expr{{Kind: api.EBin, Op: api.ADD}, {Kind: api.EBin, Op: api.MUL}}
	two[0].L, two[1].L = two, two
	return []api.Prog{of(0, 1, self...), of(0, 1, self[0], ret(con(1))), of(0, 1, sides...), of(0, 1, ret(one[0])), of(1, 1, set(0, two[1])), of(0, 1, while(two[0], self...)), prog(1, fn(2, 2), fn(0, 1, call(0, 0, two...)))}
}

// wrongs are programs that may not be.
func wrongs() []api.Prog {
	deep := con(1)
	for range 8 {
		deep = add(deep, con(1))
	}
	body := []api.Stmt{ret(con(1))}
	for range 8 {
		body = []api.Stmt{fork(con(1), body, nil)}
	}
	tooMany := withNodes(4096)
	tooMany.Funcs[1].Body = append(tooMany.Funcs[1].Body, call(0, 0))
	return append(within(), tooMany, withNodes(4098), withNodes(9000),
		api.Prog{}, prog(1), api.Prog{Funcs: make([]api.Func, 33)}, prog(0, fn(1, 1)), prog(0, fn(2, 1), fn(0, 0)), prog(0, fn(-1, 0), fn(0, 0)), of(65, 0), of(-1, 0), of(0, -1), of(0, 1025), of(0, math.MinInt), of(0, math.MaxInt),
		of(1, 0, set(1, con(1))), of(0, 0, set(0, con(1))), of(1, 0, set(-1, con(1))), of(1, 0, ret(vr(1))), of(1, 0, ret(vr(-1))), of(1, 0, api.Stmt{}), of(1, 0, api.Stmt{Kind: 10, Args: []api.Expr{con(1)}}), of(1, 0, api.Stmt{Kind: 255}), of(1, 0, ret(api.Expr{})), of(1, 0, ret(api.Expr{Kind: 5})), of(1, 0, ret(api.Expr{Kind: 255})),
		of(1, 0, call(0, 0)), prog(0, fn(0, 1, call(0, 1)), fn(0, 0)), prog(0, fn(1, 1), fn(0, 1, call(0, 0))), prog(0, fn(1, 1), fn(0, 1, call(0, 0, con(1), con(2)))), prog(0, fn(0, 0), fn(0, 1, call(0, -1))),
		of(1, 4, hash(257, con(0), con(0), con(0))), of(1, 4, hash(-1, con(0), con(0), con(0))), of(0, 0, ret(bin(api.MOV, con(1), con(1)))), of(0, 0, ret(bin(api.LD, con(1), con(1)))), of(0, 0, ret(bin(api.NoOp, con(1), con(1)))),
		of(0, 0, api.Stmt{Kind: api.SReturn}), of(0, 2, api.Stmt{Kind: api.SStore, Args: []api.Expr{con(1)}}), of(0, 0, api.Stmt{Kind: api.SIf}), of(0, 0, api.Stmt{Kind: api.SWhile, Args: []api.Expr{con(0)}, Else: []api.Stmt{ret(con(1))}}), of(0, 0, ret(api.Expr{Kind: api.ELoad})), of(0, 0, ret(api.Expr{Kind: api.EBin, Op: api.ADD, L: []api.Expr{con(1)}})),
		of(0, 0, ret(deep)), of(0, 0, body...))
}
