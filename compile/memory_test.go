package compile

import (
	"reflect"
	"slices"
	"testing"

	"proctor/api"
	"proctor/interp"
	"proctor/vm"
)

// roomy is a list with filled room behind its end.
func roomy[T any](l []T, filler T) []T {
	return append(slices.Clone(l), slices.Repeat([]T{filler}, 9)...)[:len(l)]
}

// loose is a program with filled room behind the end of each list.
func loose(p api.Prog) api.Prog {
	p.Funcs = roomy(p.Funcs, fn(0, 3, ret(con(76))))
	for i := range p.Funcs {
		p.Funcs[i].Body = looseStmts(p.Funcs[i].Body)
	}
	return p
}

func looseStmts(list []api.Stmt) []api.Stmt {
	list = roomy(list, ret(con(77)))
	for i := range list {
		s := &list[i]
		s.Args, s.Then, s.Else = looseExprs(s.Args), looseStmts(s.Then), looseStmts(s.Else)
	}
	return list
}

func looseExprs(list []api.Expr) []api.Expr {
	list = roomy(list, con(78))
	for i := range list {
		list[i].L = looseExprs(list[i].L)
	}
	return list
}

// whole is a copy of a program, with the room behind lists as part of these.
func whole(p api.Prog) api.Prog {
	p.Funcs = slices.Clone(p.Funcs[:cap(p.Funcs)])
	for i := range p.Funcs {
		p.Funcs[i].Body = wholeStmts(p.Funcs[i].Body)
	}
	return p
}

func wholeStmts(list []api.Stmt) []api.Stmt {
	list = slices.Clone(list[:cap(list)])
	for i := range list {
		s := &list[i]
		s.Args, s.Then, s.Else = wholeExprs(s.Args), wholeStmts(s.Then), wholeStmts(s.Else)
	}
	return list
}

func wholeExprs(list []api.Expr) []api.Expr {
	list = slices.Clone(list[:cap(list)])
	for i := range list {
		list[i].L = wholeExprs(list[i].L)
	}
	return list
}

// busy is a program that has each kind of statement and of expression, and writes over its data.
func busy() (api.Prog, []uint64, []api.Hashed) {
	b := []byte("bytes that are known")
	p := prog(12,
		fn(2, 3, set(2, bin(api.MUL, vr(0), load(con(5)))), fork(vr(1), []api.Stmt{store(con(6), vr(2)), ret(add(vr(2), con(1)))}, []api.Stmt{plen(0, con(0))}), ret(vr(0))),
		fn(0, 3, append(countdown(0, 3, call(1, 0, vr(0), sub(vr(0), con(1))), store(add(vr(0), con(6)), vr(1))),
			pre(2, con(0), con(3)), store(con(7), vr(2)), hash(3, con(8), con(0), con(60)), hash(256, con(0), con(1), con(9)), put(5, most), ret(vr(1)))...))
	return p, slices.Concat(sumOf(b), []uint64{3, 4, 5, 6}), []api.Hashed{entry([]byte("other")), entry(b)}
}

// spoil fills a list anew, the room behind its end too.
func spoil(l []uint64) {
	for i := range l[:cap(l)] {
		l[:cap(l)][i] = 0xbad
	}
}

// P15.1, P15.2: a program stays as it was handed in, the room behind its lists too; and that room is not to be seen.
func TestProgramsStay(t *testing.T) {
	p, data, known := busy()
	tight := wantImage(t, p)
	tooGreat := of(1, 1024, slices.Repeat([]api.Stmt{set(0, con(1<<63))}, 2048)...)
	for k, x := range append(wrongs()[len(within()):], p, first13(), tooGreat) {
		q := loose(x)
		kept := whole(q)
		i, e := Compile(q)
		if j, f := Compile(x); f != e || !reflect.DeepEqual(i, j) {
			t.Errorf("%d: Compile: %d, without room %d", k, e, f)
		}
		for _, steps := range []int{-1, 0, 7, 1 << 22} {
			n, e := Bound(q, steps)
			if m, f := Bound(x, steps); n != m || e != f {
				t.Errorf("%d: Bound: %d, %d, without room %d, %d", k, n, e, m, f)
			}
		}
		if !reflect.DeepEqual(whole(q), kept) {
			t.Errorf("%d: the program did not stay", k)
		}
	}
	o := wantRightOf(t, p, tight, data, known)
	if o.Status != api.Halted || o.Value == 0 {
		t.Errorf("%v", o)
	}
}

// P15.2: an image, its data and its machine stay as they were handed in, the room behind them too; and that room is not to be seen.
func TestImagesStay(t *testing.T) {
	for _, base := range []int{0, 2, 5, 8, 9, -1} {
		for _, has := range []int{0, 1, 3, 8, -1} {
			for given := range 5 {
				i := api.Image{Words: roomy(numbered(8), 9), Base: base, Data: has}
				data := roomy(letters(5)[:given], 9)
				m := machineOf(roomy(numbered(8), 9), api.Halted)
				m.Mem[3]++
				keptWords, keptData, keptMem := slices.Clone(i.Words[:cap(i.Words)]), slices.Clone(data[:cap(data)]), slices.Clone(m.Mem[:cap(m.Mem)])
				wantStart(t, i, data)
				wantResult(t, i, m)
				if !slices.Equal(i.Words[:cap(i.Words)], keptWords) || !slices.Equal(data[:cap(data)], keptData) || !slices.Equal(m.Mem[:cap(m.Mem)], keptMem) {
					t.Fatalf("Base %d, Data %d, %d words: something did not stay", base, has, given)
				}
			}
		}
	}
}

// P15.2: words behind an image's end are none of it: neither its number of words nor its data reach into them.
func TestRoomIsNoMemory(t *testing.T) {
	words := numbered(8)
	for n := range 9 {
		for base := range 9 {
			for has := range 9 {
				i := api.Image{Words: words[:n], Base: base, Data: has}
				wantStart(t, i, words[:min(has, 8)])
				wantResult(t, i, machineOf(words[:n], api.Halted))
				wantResult(t, i, machineOf(words, api.Halted))
			}
		}
	}
	if !slices.Equal(words, numbered(8)) {
		t.Errorf("the words did not stay: %v", words)
	}
}

// P15.1, P15.2: what is answered is new memory: a changed answer changes no argument and no other answer.
func TestAnswersAreNew(t *testing.T) {
	p, data, known := busy()
	want := wantImage(t, p)
	i, _ := Compile(p)
	j, _ := Compile(p)
	spoil(i.Words)
	if !slices.Equal(j.Words, want.Words) {
		t.Errorf("two images share memory")
	}
	given := slices.Clone(data)
	m, _ := Start(j, given...)
	n, _ := Start(j, given...)
	spoil(m.Mem)
	if !slices.Equal(j.Words, want.Words) || !slices.Equal(given, data) || !vm.Same(n, startBy(want, data)) {
		t.Errorf("a start shares memory")
	}
	spoil(j.Words)
	spoil(given)
	if !vm.Same(n, startBy(want, data)) {
		t.Errorf("a start shares memory with what was handed in")
	}
	end, _, _ := vm.Run(n, known, 1<<22)
	kept := slices.Clone(end.Mem)
	o, _ := Result(want, end)
	q, _ := Result(want, end)
	spoil(o.Data)
	if !slices.Equal(end.Mem, kept) || !slices.Equal(q.Data, kept[want.Base:want.Base+want.Data]) {
		t.Errorf("a result shares memory")
	}
	spoil(end.Mem)
	if !slices.Equal(q.Data, kept[want.Base:want.Base+want.Data]) {
		t.Errorf("a result shares memory with its machine")
	}
}

// P15.1, P15.2: answers without data share none either, and an image's room is its own.
func TestEmptyAnswersAreNew(t *testing.T) {
	for _, base := range []int{0, 2, 4} {
		i := api.Image{Words: numbered(4), Base: base}
		m := machineOf(numbered(4), api.Halted)
		o, _ := Result(i, m)
		spoil(o.Data)
		n, _ := Start(i)
		spoil(n.Mem)
		if !slices.Equal(m.Mem, numbered(4)) || !slices.Equal(i.Words, numbered(4)) {
			t.Errorf("Base %d: shared: %v, %v", base, m, i)
		}
	}
}

// P15.1: nothing is kept: a program that is changed between two calls is compiled as it is then.
func TestChangedArguments(t *testing.T) {
	p := of(1, 2, set(0, con(3)), store(con(0), vr(0)), ret(con(5)))
	before := wantImage(t, p)
	p.Funcs[0].Body[0].Args[0].N = 4
	p.Data = 4
	wantHalted(t, p, nil, nil, 5, 4, 0, 0, 0)
	p.Funcs[0].Body[0].V = 1
	if _, e := Compile(p); e != api.ErrArg {
		t.Errorf("Compile: %d", e)
	}
	p.Funcs[0].Body[0] = set(0, con(3))
	p.Data = 2
	if after := wantImage(t, p); !slices.Equal(after.Words, before.Words) || after.Base != before.Base {
		t.Errorf("another image")
	}
	o, _ := interp.Run(p, nil, nil, 99)
	wantCame(t, p, before, nil, nil, o)
}
