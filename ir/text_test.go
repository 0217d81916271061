package ir

import (
	"fmt"
	"math"
	"slices"
	"strings"
	"testing"

	"proctor/api"
)

// wantText asks for a text of these lines.
func wantText(t *testing.T, p api.Prog, lines ...string) {
	t.Helper()
	want := strings.Join(lines, "\n") + "\n"
	if s, e := Text(p); s != want || e != api.OK {
		t.Errorf("Text = %q, %d, want %q", s, e, want)
	}
	wantMay(t, "a program with a text", p)
}

// wantLines asks for the lines of a body, of a function with two variables behind two others.
func wantLines(t *testing.T, body []api.Stmt, lines ...string) {
	t.Helper()
	wantText(t, around(body...), slices.Concat([]string{"data 0", "func 1 1", "end", "func 2 2", "end", "func 0 2"}, lines, []string{"end"})...)
}

// P13.1: the text of each kind.
func TestTextOfEveryKind(t *testing.T) {
	wantLines(t, []api.Stmt{set(1, con(1))}, "v1 = 1")
	wantLines(t, []api.Stmt{store(con(1), vr(0))}, "[ 1 ] = v0")
	wantLines(t, []api.Stmt{store(load(con(1)), load(vr(0)))}, "[ [ 1 ] ] = [ v0 ]")
	wantLines(t, []api.Stmt{fork(vr(1), []api.Stmt{ret(con(1))}, []api.Stmt{ret(con(2)), ret(con(3))})}, "if v1", "return 1", "else", "return 2", "return 3", "end")
	wantLines(t, []api.Stmt{while(vr(1), set(0, con(2)), ret(vr(0)))}, "while v1", "v0 = 2", "return v0", "end")
	wantLines(t, []api.Stmt{ret(bin(api.ADD, vr(0), vr(1)))}, "return ( v0 + v1 )")
	wantLines(t, []api.Stmt{call(1, 0, con(1))}, "v1 = f0 ( 1 )")
	wantLines(t, []api.Stmt{call(0, 1, con(1), bin(api.SUB, con(2), con(3)))}, "v0 = f1 ( 1 , ( 2 - 3 ) )")
	wantLines(t, []api.Stmt{hash(7, con(1), vr(1), load(con(3)))}, "hash 7 1 v1 [ 3 ]")
	wantLines(t, []api.Stmt{pre(1, con(1), con(2))}, "v1 = pre 1 2")
	wantLines(t, []api.Stmt{plen(0, vr(1))}, "v0 = plen v1")
	wantLines(t, nil)
	wantText(t, sample(),
		"data 9",
		"func 2 3", "v2 = ( v0 * [ 5 ] )", "if v1", "[ 1 ] = v2", "while ( v0 < 7 )", "return 18446744073709551615", "end", "else", "v0 = plen 2", "end", "end",
		"func 0 1", "end",
		"func 0 4", "v3 = f0 ( v1 , ( 0 == v2 ) )", "v2 = f1 ( )", "hash 256 1 v1 32", "v1 = pre [ v3 ] 8", "if 1", "else", "end", "while 0", "end", "hash 0 0 4 8", "end")
}

// P13.1: the text of each sign.
func TestSigns(t *testing.T) {
	signs := strings.Fields("+ - * / % & ! ^ << >> < ==")
	for i, sign := range signs {
		op := api.ADD + api.Op(i)
		wantLines(t, []api.Stmt{ret(bin(op, con(3), vr(1)))}, "return ( 3 "+sign+" v1 )")
		wantLines(t, []api.Stmt{ret(bin(op, bin(op, con(3), con(4)), bin(op, con(5), con(6))))}, fmt.Sprintf("return ( ( 3 %s 4 ) %s ( 5 %s 6 ) )", sign, sign, sign))
	}
	if api.ADD+api.Op(len(signs))-1 != api.EQ {
		t.Errorf("%d signs", len(signs))
	}
}

// P13.1: numbers at their edges, without noughts ahead.
func TestNumbers(t *testing.T) {
	for _, n := range []uint64{0, 1, 9, 10, 99, 100, 1<<31 - 1, 1 << 31, 1 << 32, 1<<63 - 1, 1 << 63, math.MaxUint64 - 1, math.MaxUint64} {
		wantLines(t, []api.Stmt{ret(con(n))}, fmt.Sprint("return ", n))
	}
	for tag := range 257 {
		wantLines(t, []api.Stmt{hash(tag, con(0), con(0), con(0))}, fmt.Sprintf("hash %d 0 0 0", tag))
	}
	for v := range 64 {
		wantText(t, of(64, set(v, vr(63-v))), "data 0", "func 0 64", fmt.Sprintf("v%d = v%d", v, 63-v), "end")
	}
	for f := range 31 {
		p := api.Prog{Funcs: make([]api.Func, 32), Data: 33 * f}
		lines := append([]string{fmt.Sprint("data ", 33*f)}, slices.Repeat([]string{"func 0 0", "end"}, 31)...)
		p.Funcs[31] = api.Func{Vars: 1, Body: []api.Stmt{call(0, f)}}
		wantText(t, p, append(lines, "func 0 1", fmt.Sprintf("v0 = f%d ( )", f), "end")...)
	}
	for _, n := range []int{0, 1, 2, 3, 64} {
		p := api.Prog{Funcs: []api.Func{{Params: n, Vars: 64}, {Vars: 1, Body: []api.Stmt{call(0, 0, slices.Repeat([]api.Expr{con(5)}, n)...)}}}}
		args := " " + strings.Join(slices.Repeat([]string{"5"}, n), " , ") + " "
		if n == 0 {
			args = " "
		}
		wantText(t, p, "data 0", fmt.Sprintf("func %d 64", n), "end", "func 0 1", "v0 = f0 ("+args+")", "end")
	}
}

// P13.1: if and while within each other, with empty Then and Else.
func TestNestedText(t *testing.T) {
	none := fork(con(1), nil, nil)
	wantLines(t, []api.Stmt{none, none}, "if 1", "else", "end", "if 1", "else", "end")
	wantLines(t, []api.Stmt{fork(con(0), []api.Stmt{none}, []api.Stmt{})}, "if 0", "if 1", "else", "end", "else", "end")
	wantLines(t, []api.Stmt{fork(con(0), []api.Stmt{}, []api.Stmt{none})}, "if 0", "else", "if 1", "else", "end", "end")
	wantLines(t, []api.Stmt{while(con(0), while(con(1)), while(con(2), none))}, "while 0", "while 1", "end", "while 2", "if 1", "else", "end", "end", "end")
	wantLines(t, []api.Stmt{fork(con(0), []api.Stmt{while(con(1))}, []api.Stmt{while(con(2), ret(con(3)))})}, "if 0", "while 1", "end", "else", "while 2", "return 3", "end", "end")
	body, lines := []api.Stmt{}, []string{}
	for i := range 8 {
		body = []api.Stmt{while(con(uint64(i)), body...)}
		lines = slices.Concat([]string{fmt.Sprint("while ", i)}, lines, []string{"end"})
	}
	wantLines(t, body, lines...)
}

// P13.1: the longest texts that there are.
func TestLongTexts(t *testing.T) {
	x := con(math.MaxUint64)
	for range 7 {
		x = bin(api.SHL, x, x)
	}
	wantMay(t, "full of numbers", around(slices.Repeat([]api.Stmt{ret(x)}, 16)...))
	wantMay(t, "full of ifs", around(slices.Repeat([]api.Stmt{fork(con(math.MaxUint64), nil, nil)}, 2048)...))
}
