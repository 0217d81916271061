package compile

import "proctor/api"

const (
	// A SHash of this Tag sums no byte ahead.
	noTag = 256
	// The Imm of a HASH that sums a byte ahead is that byte and so much.
	byteAhead = 256
)

// stmtKinds is which method puts which kind of statement.
func (b *builder) stmtKinds() [api.SPlen + 1]func(s api.Stmt) {
	return [...]func(s api.Stmt){
		api.SSet:    b.set,
		api.SStore:  b.store,
		api.SIf:     b.choose,
		api.SWhile:  b.repeat,
		api.SReturn: b.answer,
		api.SCall:   b.call,
		api.SHash:   b.hash,
		api.SPre:    b.piece,
		api.SPlen:   b.length,
	}
}

func (b *builder) stmts(list []api.Stmt) {
	for _, s := range list {
		b.stmtBy[s.Kind](s)
	}
}

func (b *builder) set(s api.Stmt) {
	b.value(s.Args[0], first)
	b.variable(api.ST, first, s.V)
}

func (b *builder) store(s api.Stmt) {
	at, x := s.Args[0], s.Args[1]
	if b.inData(at) {
		b.value(x, first)
		b.data(api.ST, first, zero, at.N)
		return
	}
	b.value(at, first)
	b.value(x, first+1)
	b.probe(first)
	b.data(api.ST, first+1, first, 0)
}

func (b *builder) choose(s api.Stmt) {
	other, end := b.fresh(), b.fresh()
	b.value(s.Args[0], first)
	b.putTo(other, api.Code{Op: api.JZ, A: first})
	b.stmts(s.Then)
	b.putTo(end, api.Code{Op: api.JMP})
	b.here(other)
	b.stmts(s.Else)
	b.here(end)
}

func (b *builder) repeat(s api.Stmt) {
	again, end := b.fresh(), b.fresh()
	b.here(again)
	b.value(s.Args[0], first)
	b.putTo(end, api.Code{Op: api.JZ, A: first})
	b.stmts(s.Then)
	b.putTo(again, api.Code{Op: api.JMP})
	b.here(end)
}

func (b *builder) answer(s api.Stmt) {
	b.value(s.Args[0], first)
	b.putTo(b.leave, api.Code{Op: api.JMP})
}

// call puts each argument right into the variable that it is handed in as: no other argument is worked out of that function's variables.
func (b *builder) call(s api.Stmt) {
	for v, x := range s.Args {
		b.value(x, first)
		b.slot(api.ST, first, b.home(s.F, v))
	}
	behind := b.fresh()
	b.putTo(behind, api.Code{Op: api.LI, A: back})
	b.putTo(label(s.F), api.Code{Op: api.JMP})
	b.here(behind)
	b.variable(api.ST, first, s.V)
}

func (b *builder) hash(s api.Stmt) {
	const to, from, size = first, first + 1, first + 2
	b.address(s.Args[0], to)
	if b.inData(s.Args[1]) {
		b.address(s.Args[1], from)
		b.value(s.Args[2], size)
	} else {
		b.value(s.Args[1], from)
		b.value(s.Args[2], size)
		// Of no bytes the address may be any.
		none := b.fresh()
		b.putTo(none, api.Code{Op: api.JZ, A: size})
		b.probe(from)
		b.here(none)
		b.raise(from)
	}
	b.put(api.Code{Op: api.HASH, A: to, B: from, C: size, Imm: ahead(s.Tag)})
}

// ahead is the Imm of a HASH that sums what a Tag says ahead.
func ahead(tag int) uint32 {
	if tag == noTag {
		return 0
	}
	return byteAhead + uint32(tag)
}

func (b *builder) piece(s api.Stmt) {
	b.address(s.Args[0], first)
	b.value(s.Args[1], first+1)
	b.put(api.Code{Op: api.PRE, A: first, B: first, C: first + 1})
	b.variable(api.ST, first, s.V)
}

func (b *builder) length(s api.Stmt) {
	b.address(s.Args[0], first)
	b.put(api.Code{Op: api.PLEN, A: first, B: first})
	b.variable(api.ST, first, s.V)
}
