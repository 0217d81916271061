package stf

import (
	"slices"
	"testing"
	"unsafe"

	"proctor/api"
	"proctor/ir"
)

// span is where a list lies, the room behind its end with it.
type span struct{ begin, end uintptr }

// held keeps lists where they are until they were held against each other.
var held []any

// hold is where a list lies, which it keeps there.
func hold[T any](l []T) span {
	held = append(held, l)
	var x T
	begin := uintptr(unsafe.Pointer(unsafe.SliceData(l)))
	return span{begin, begin + uintptr(cap(l))*unsafe.Sizeof(x)}
}

// wantApart finds two lists among some that share memory.
func wantApart(t *testing.T, lists ...span) {
	t.Helper()
	lists = slices.DeleteFunc(lists, func(s span) bool { return s.begin == s.end })
	slices.SortFunc(lists, func(a, b span) int { return int(a.begin) - int(b.begin) })
	for i := 1; i < len(lists); i++ {
		if lists[i].begin < lists[i-1].end {
			t.Errorf("two of %d lists share memory", len(lists))
		}
	}
	held = nil
}

// holdExprs is where a list of expressions and all that it reaches lie.
func holdExprs(l []api.Expr) []span {
	spans := []span{hold(l)}
	for _, x := range l {
		spans = append(spans, holdExprs(x.L)...)
	}
	return spans
}

func holdStmts(l []api.Stmt) []span {
	spans := []span{hold(l)}
	for _, s := range l {
		spans = slices.Concat(spans, holdExprs(s.Args), holdStmts(s.Then), holdStmts(s.Else))
	}
	return spans
}

func holdProg(p api.Prog) []span {
	spans := []span{hold(p.Funcs)}
	for _, f := range p.Funcs {
		spans = append(spans, holdStmts(f.Body)...)
	}
	return spans
}

// holdAll is where a list of entries lies, and the bytes of each.
func holdAll(l []api.Hashed) []span {
	spans := []span{hold(l)}
	for _, x := range l {
		spans = append(spans, hold(x.Bytes))
	}
	return spans
}

// spoilExprs writes over all that a list of expressions reaches, the room behind the ends too.
func spoilExprs(l []api.Expr) {
	for i := range l {
		spoilExprs(l[i].L)
	}
	room := l[:cap(l)]
	for i := range room {
		room[i] = api.Expr{Kind: api.EConst, N: 666}
	}
}

func spoilStmts(l []api.Stmt) {
	for i := range l {
		spoilExprs(l[i].Args)
		spoilStmts(l[i].Then)
		spoilStmts(l[i].Else)
	}
	room := l[:cap(l)]
	for i := range room {
		room[i] = api.Stmt{Kind: api.SReturn}
	}
}

func spoilProg(p api.Prog) {
	for i := range p.Funcs {
		spoilStmts(p.Funcs[i].Body)
	}
	clear(p.Funcs[:cap(p.Funcs)])
}

// roomy is a list with filled room behind its end.
func roomy[T any](l []T, filler T) []T {
	return append(slices.Clone(l), slices.Repeat([]T{filler}, 40)...)[:len(l)]
}

// P17.1: no two lists of programs, of images, of beginnings and of what is known share memory, nor with what was handed in.
func TestAnswersAreNew(t *testing.T) {
	s := rich(5)
	m := roomy(of(pay(6, 19)), 'u')
	spans := []span{hold(s.Outs), hold(m)}
	for range 2 {
		i, _ := Image()
		x, _ := Begin(rootOf(s), sumOf(string(m)))
		known, _ := Prove(s, m)
		spans = slices.Concat(spans, holdProg(Program()), []span{hold(i.Words), hold(x.Mem)}, holdAll(known))
	}
	wantApart(t, spans...)
}

// P17.1: what a caller writes over in one answer shows in no other, before or after.
func TestAnswersAreWrittenOver(t *testing.T) {
	text, e := ir.Text(Program())
	if e != api.OK {
		t.Fatalf("Text: %d", e)
	}
	image, _ := Image()
	want := slices.Clone(image.Words)
	root, message := sums()[8], sums()[9]
	begun, _ := Begin(root, message)
	kept := slices.Clone(begun.Mem)
	for range 3 {
		p, q := Program(), Program()
		spoilProg(p)
		for _, x := range []api.Prog{q, Program()} {
			if now, e := ir.Text(x); now != text || e != api.OK {
				t.Fatalf("a program that was written over shows in another one")
			}
		}
		i, _ := Image()
		if !slices.Equal(i.Words, want) {
			t.Fatalf("an image that was written over shows in another one")
		}
		clear(i.Words[:cap(i.Words)])
		x, _ := Begin(root, message)
		if !slices.Equal(x.Mem, kept) || !slices.Equal(begun.Mem, kept) {
			t.Fatalf("a beginning that was written over shows in another one")
		}
		clear(x.Mem[:cap(x.Mem)])
		in := Inputs(root, message)
		clear(in[:])
		if again := Inputs(root, message); !slices.Equal(again[:], slices.Concat(wordsOf(root), wordsOf(message))) {
			t.Fatalf("Inputs = %x", again)
		}
	}
	if !slices.Equal(image.Words, want) {
		t.Errorf("the first image was written over")
	}
}

// P17.1: bytes and states that are handed to Prove stay, with the room behind their ends, which shows in no answer; and what becomes of them shows in none.
func TestProveKeepsWhatItIsHanded(t *testing.T) {
	for _, outs := range []int{0, 1, 9, 32} {
		for _, m := range someBytes()[:12] {
			tight := rich(outs)
			s := rich(outs)
			s.Outs = roomy(s.Outs, api.Out{To: 5, Amount: 6})
			b := roomy(m, 'u')
			keptOuts, keptBytes := slices.Clone(s.Outs[:cap(s.Outs)]), slices.Clone(b[:cap(b)])
			want, _ := Prove(tight, m)
			got, e := Prove(s, b)
			if e != api.OK || !slices.Equal(s.Outs[:cap(s.Outs)], keptOuts) || !slices.Equal(b[:cap(b)], keptBytes) || s.Accounts != tight.Accounts {
				t.Errorf("Prove of %d withdrawals, %d bytes changed them, or is %d", outs, len(m), e)
			}
			clear(s.Outs[:cap(s.Outs)])
			clear(b[:cap(b)])
			if !slices.EqualFunc(got, want, sameEntry) {
				t.Errorf("Prove of %d withdrawals, %d bytes shares memory with them", outs, len(m))
			}
			again, _ := Prove(tight, m)
			for _, x := range got {
				clear(x.Bytes[:cap(x.Bytes)])
			}
			clear(got[:cap(got)])
			if !slices.EqualFunc(again, want, sameEntry) {
				t.Errorf("an answer of Prove that was written over shows in another one")
			}
		}
	}
}

// P17.1: a machine that is handed to Output stays, with the room behind its memory's end; that room is not a part of it.
func TestOutputKeepsWhatItIsHanded(t *testing.T) {
	b := newBench(t)
	for _, status := range []api.Status{api.Running, api.Halted, api.Trapped} {
		m := marked(b, status, sums()[7], 1)
		m.Mem = roomy(m.Mem, 7)
		kept := slices.Clone(m.Mem[:cap(m.Mem)])
		before := m
		if h, did, ok := Output(m); ok != (status == api.Halted) || did != ok || ok && h != sums()[7] {
			t.Errorf("Output of the status %d = %x, %v, %v", status, h, did, ok)
		}
		if m.PC != before.PC || m.Regs != before.Regs || m.Status != before.Status || !slices.Equal(m.Mem[:cap(m.Mem)], kept) {
			t.Errorf("a machine of the status %d did not stay", status)
		}
		m.Mem = m.Mem[:len(m.Mem)-1]
		if _, _, ok := Output(m); ok {
			t.Errorf("a word behind the memory's end is taken for one of it")
		}
	}
}
