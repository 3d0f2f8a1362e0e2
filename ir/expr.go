package ir

import "relay/api"

// kid is a part of an expression. One that is not there, which core never leaves out, is as an empty one.
func kid(e *api.Expr, i int) *api.Expr {
	if i >= len(e.Kids) {
		return &api.Expr{}
	}
	return &e.Kids[i]
}

// expr puts an expression's instructions, and tells the register to which it comes.
func (b *builder) expr(e *api.Expr) int {
	switch {
	case e.Op >= api.OpAdd && e.Op <= api.OpGe:
		left := b.expr(kid(e, 0))
		return b.do(e.Op, left, b.expr(kid(e, 1)))
	case e.Op == api.OpNeg || e.Op == api.OpNot:
		return b.turn(e.Op, b.expr(kid(e, 0)))
	case e.Op == api.ExConv:
		return b.convert(e.Kind, b.expr(kid(e, 0)))
	case e.Op == api.ExName || e.Op == api.ExField || e.Op == api.ExIndex:
		return b.reach(e, api.IrLoad, api.IrLoadX)
	case e.Op == api.ExRef:
		return b.reach(kid(e, 0), api.IrRef, api.IrRefX)
	case e.Op == api.ExCall && e.Area == 0:
		return b.standard(e)
	case e.Op == api.ExCall:
		return b.call(e)
	}
	return b.constant(e.Value)
}

func (b *builder) turn(op, reg int) int {
	return b.give(api.Op{Code: api.IrTurn, B: reg, D: op})
}

func (b *builder) convert(k api.Kind, reg int) int {
	return b.give(api.Op{Code: api.IrConv, B: reg, D: int(k)})
}

// reach puts what asks a place: the first code, or of an element the second one.
func (b *builder) reach(place *api.Expr, code, indexed int) int {
	return b.give(cell(place, b.index(place), code, indexed))
}

// index is the register of a place's index; 0, if it has none.
func (b *builder) index(place *api.Expr) int {
	if place.Op != api.ExIndex {
		return 0
	}
	return b.expr(kid(place, 0))
}

// cell is an instruction over a place's cell: of the first code, or of an element of the second one.
func cell(place *api.Expr, index, code, indexed int) api.Op {
	o := api.Op{Code: code, B: place.Area, C: place.Ref}
	if place.Op == api.ExIndex {
		o.Code, o.D, o.Lo, o.Hi = indexed, index, place.From, place.To
	}
	return o
}

// all is the registers to which expressions come, from the left to the right.
func (b *builder) all(l []api.Expr) []int {
	var regs []int
	for i := range l {
		regs = append(regs, b.expr(&l[i]))
	}
	return regs
}

// standard is a call of a standard function.
func (b *builder) standard(e *api.Expr) int {
	args := b.all(e.Kids)
	for _, reg := range args {
		b.put(api.Op{Code: api.IrArg, A: reg})
	}
	return b.give(api.Op{Code: api.IrStd, C: len(args), D: e.Ref})
}

// The Areas of an ExParam that has bounds.
const (
	hasRange  = 1
	hasLength = 2
)

// call is a call of a function of the project: all arguments are known ahead of the first one that is stored, as they may call it too.
func (b *builder) call(e *api.Expr) int {
	var args []int
	for i := range e.Kids {
		args = append(args, b.expr(kid(&e.Kids[i], 0)))
	}
	for i, reg := range args {
		p := &e.Kids[i]
		switch p.Area {
		case hasRange:
			b.put(api.Op{Code: api.IrCheck, A: reg, Lo: p.From, Hi: p.To})
		case hasLength:
			b.put(api.Op{Code: api.IrText, A: reg, Hi: p.To})
		}
		b.put(api.Op{Code: api.IrStore, A: reg, B: api.AreaGlobal, C: e.From + p.Ref})
	}
	b.put(api.Op{Code: api.IrCall, B: e.Ref, C: api.AreaGlobal, D: e.From})
	return b.give(api.Op{Code: api.IrLoad, B: api.AreaGlobal, C: e.From})
}
