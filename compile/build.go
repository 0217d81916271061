package compile

import "proctor/api"

// The memory of an image is code from 0 on, slots behind it, noughts, and the data at its end.
// No function is run within itself, as each calls earlier ones alone: so each has slots of its own, the first one for the place where it goes back to, the others for its variables.

// What the registers are for, but for those between first and spare, which expressions take.
const (
	zero  = 0  // is never written, and stays 0
	first = 1  // is the first one that expressions take, and has a function's value where it is left
	spare = 13 // takes what nobody asks for
	base  = 14 // is where the data begin
	back  = 15 // is where a function that is called goes back to
)

// label is a number of a place in the memory that may not be known yet. The least ones are the functions' numbers: where their code begins.
type label int

const (
	slotsBegin label = api.MaxFuncs + iota
	dataBegin
	firstFresh
)

// gap is an instruction whose Imm lacks the place of a label.
type gap struct {
	at int
	to label
}

// builder is a program that is being compiled. The program may be: so each variable, function and part that it names is there.
type builder struct {
	api.Prog
	put    func(more ...api.Code) int // puts code behind the code so far, and tells how far this goes then
	places map[label]int
	gaps   []gap
	next   label // the next one that is fresh
	frames []int // of each function its first slot
	slots  int   // of all functions
	in     int   // the function whose code is being put
	leave  label // where that one is left, with its value in first
	stmtBy [api.SPlen + 1]func(s api.Stmt)
	exprBy [api.ELoad + 1]func(x api.Expr, free uint8)
}

func newBuilder(p api.Prog, put func(more ...api.Code) int) *builder {
	b := &builder{Prog: p, put: put, places: map[label]int{}, next: firstFresh}
	for _, f := range p.Funcs {
		b.frames = append(b.frames, b.slots)
		b.slots += 1 + f.Vars
	}
	b.stmtBy = b.stmtKinds()
	b.exprBy = b.exprKinds()
	return b
}

// fresh is a label that stands nowhere yet.
func (b *builder) fresh() label {
	b.next++
	return b.next - 1
}

// here is where a label stands from now on.
func (b *builder) here(l label) { b.places[l] = b.put() }

// putTo puts an instruction whose Imm is to be so much behind a label's place.
func (b *builder) putTo(l label, c api.Code) {
	b.gaps = append(b.gaps, gap{at: b.put(c) - 1, to: l})
}

// mend fills in all places, when each label's is known.
func (b *builder) mend(code []api.Code) {
	for _, g := range b.gaps {
		code[g.at].Imm += uint32(b.places[g.to])
	}
}

// program puts all functions, the last one ahead, as the machine begins at 0.
func (b *builder) program() {
	last := len(b.Funcs) - 1
	b.begin(last)
	for n := range last {
		b.called(n)
	}
}

// begin puts the function that a program begins with. Its variables are noughts, as the image has them: nobody calls it.
func (b *builder) begin(n int) {
	b.putTo(dataBegin, api.Code{Op: api.LI, A: base})
	b.body(n)
	b.put(api.Code{Op: api.HALT})
}

// called puts a function that others may call, more than once: so its variables but for those that are handed in are made noughts.
func (b *builder) called(n int) {
	f := b.Funcs[n]
	b.here(label(n))
	b.slot(api.ST, back, b.frames[n])
	for v := f.Params; v < f.Vars; v++ {
		b.slot(api.ST, zero, b.home(n, v))
	}
	b.body(n)
	b.slot(api.LD, back, b.frames[n])
	b.put(api.Code{Op: api.JR, A: back})
}

// body puts a function's statements. All ways lead behind them.
func (b *builder) body(n int) {
	b.in, b.leave = n, b.fresh()
	b.stmts(b.Funcs[n].Body)
	b.put(api.Code{Op: api.LI, A: first})
	b.here(b.leave)
}

// home is the slot of a function's variable.
func (b *builder) home(n, v int) int { return b.frames[n] + 1 + v }

// slot puts a LD or ST of a slot.
func (b *builder) slot(op api.Op, register uint8, n int) {
	b.putTo(slotsBegin, api.Code{Op: op, A: register, B: zero, Imm: uint32(n)})
}

// variable puts a LD or ST of a variable of the function whose code is being put.
func (b *builder) variable(op api.Op, register uint8, v int) {
	b.slot(op, register, b.home(b.in, v))
}
