package compile

import "proctor/api"

// exprKinds is which method puts which kind of expression.
func (b *builder) exprKinds() [api.ELoad + 1]func(x api.Expr, free uint8) {
	return [...]func(x api.Expr, free uint8){
		api.EConst: b.constant,
		api.EVar:   b.read,
		api.EBin:   b.binary,
		api.ELoad:  b.load,
	}
}

// value puts code that leaves what an expression comes to in the register free, and changes none below it. It takes as many registers as the expression is deep.
func (b *builder) value(x api.Expr, free uint8) { b.exprBy[x.Kind](x, free) }

func (b *builder) constant(x api.Expr, free uint8) {
	low := uint32(x.N)
	if high := uint32(x.N >> 32); high != 0 {
		b.put(api.Code{Op: api.LI, A: free, Imm: high}, api.Code{Op: api.LIH, A: free, Imm: low})
		return
	}
	b.put(api.Code{Op: api.LI, A: free, Imm: low})
}

func (b *builder) read(x api.Expr, free uint8) { b.variable(api.LD, free, x.V) }

func (b *builder) binary(x api.Expr, free uint8) {
	b.value(x.L[0], free)
	b.value(x.L[1], free+1)
	b.put(api.Code{Op: x.Op, A: free, B: free, C: free + 1})
}

func (b *builder) load(x api.Expr, free uint8) {
	if at := x.L[0]; b.inData(at) {
		b.data(api.LD, free, zero, at.N)
		return
	}
	b.value(x.L[0], free)
	b.probe(free)
	b.data(api.LD, free, free, 0)
}

// inData says whether an expression is a number that is sure to be a data address.
func (b *builder) inData(x api.Expr) bool {
	return x.Kind == api.EConst && x.N < uint64(b.Data)
}

// data puts a LD or ST of the data word whose address is a register's and more together: one that was probed, or is sure to be there.
func (b *builder) data(op api.Op, register, at uint8, more uint64) {
	b.putTo(dataBegin, api.Code{Op: op, A: register, B: at, Imm: uint32(more)})
}

// probe puts a trap, if a register's number is no address of the memory at all. Any other one that is no data address comes to lie behind the memory's end when the data's beginning is added, as they stand at that end; only what was trapped here could have wrapped round into code and slots.
func (b *builder) probe(register uint8) {
	b.put(api.Code{Op: api.LD, A: spare, B: register})
}

// raise puts what makes of the data address in a register that of the memory.
func (b *builder) raise(register uint8) {
	b.put(api.Code{Op: api.ADD, A: register, B: register, C: base})
}

// address puts code that leaves the memory's address of a data address in the register free, or one that is behind the memory's end, where that is none; or that traps.
func (b *builder) address(x api.Expr, free uint8) {
	if b.inData(x) {
		b.putTo(dataBegin, api.Code{Op: api.LI, A: free, Imm: uint32(x.N)})
		return
	}
	b.value(x, free)
	b.probe(free)
	b.raise(free)
}
