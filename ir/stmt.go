package ir

import (
	"relay/api"
	"relay/value"
)

// part is an expression of a statement. One that is not there, which core never leaves out, is as an empty one.
func part(s *api.Stmt, i int) *api.Expr {
	if i >= len(s.Exprs) {
		return &api.Expr{}
	}
	return &s.Exprs[i]
}

// stmts puts statements' instructions. Labels are those of their list alone.
func (b *builder) stmts(l []api.Stmt) {
	labels := map[string]*target{}
	label := func(name string) *target {
		if labels[name] == nil {
			labels[name] = &target{}
		}
		return labels[name]
	}
	for i := range l {
		switch s := &l[i]; s.Op {
		case api.StLabel:
			b.here(label(s.Name))
		case api.StJump:
			b.skip(s, label(s.Name))
		default:
			b.stmt(s)
		}
	}
}

// skip is a StJump.
func (b *builder) skip(s *api.Stmt, to *target) {
	if len(s.Exprs) == 0 {
		b.jump(to)
		return
	}
	b.unless(b.turn(api.OpNot, b.expr(&s.Exprs[0])), to)
}

// stmt puts the instructions of a statement that is neither a label nor a jump.
func (b *builder) stmt(s *api.Stmt) {
	switch s.Op {
	case api.StSet:
		b.set(s)
	case api.StIf:
		b.choose(s)
	case api.StCase:
		b.arms(s)
	case api.StFor:
		b.count(s)
	case api.StWhile:
		b.while(s)
	case api.StRepeat:
		b.repeat(s)
	case api.StExit:
		if n := len(b.around); n > 0 {
			b.jump(&b.around[n-1].end)
		}
	case api.StReturn:
		b.put(api.Op{Code: api.IrReturn})
	case api.StCall:
		b.instance(s)
	}
}

// set is a StSet: the index comes ahead of the right side, but is looked at behind it.
func (b *builder) set(s *api.Stmt) {
	place := part(s, 0)
	index := b.index(place)
	reg := b.expr(part(s, 1))
	if len(s.Ranges) > 0 {
		b.put(api.Op{Code: api.IrCheck, A: reg, Lo: s.Ranges[0].Lo, Hi: s.Ranges[0].Hi})
	}
	if s.Num > 0 {
		b.put(api.Op{Code: api.IrText, A: reg, Hi: s.Num})
	}
	o := cell(place, index, api.IrStore, api.IrStoreX)
	o.A = reg
	b.put(o)
}

// choose is a StIf.
func (b *builder) choose(s *api.Stmt) {
	var no, end target
	b.unless(b.expr(part(s, 0)), &no)
	b.stmts(s.Body)
	if len(s.Else) > 0 {
		b.jump(&end)
	}
	b.here(&no)
	b.stmts(s.Else)
	b.here(&end)
}

// arms is a StCase.
func (b *builder) arms(s *api.Stmt) {
	var end target
	e := part(s, 0)
	reg := b.expr(e)
	for i := range s.Body {
		var no target
		b.unless(b.test(reg, e.Kind, s.Body[i].Ranges), &no)
		b.stmts(s.Body[i].Body)
		b.jump(&end)
		b.here(&no)
	}
	b.stmts(s.Else)
	b.here(&end)
}

// test is whether a register of a kind lies in one of several ranges.
func (b *builder) test(reg int, k api.Kind, l []api.Range) int {
	if len(l) == 0 {
		return b.constant(value.Bool(false))
	}
	is := b.lies(reg, k, l[0])
	for _, r := range l[1:] {
		is = b.do(api.OpOr, is, b.lies(reg, k, r))
	}
	return is
}

// lies is whether a register of a kind lies in a range.
func (b *builder) lies(reg int, k api.Kind, r api.Range) int {
	low := b.number(k, r.Lo)
	if r.Lo == r.Hi {
		return b.do(api.OpEq, reg, low)
	}
	isAbove := b.do(api.OpGe, reg, low)
	isBelow := b.do(api.OpLe, reg, b.number(k, r.Hi))
	return b.do(api.OpAnd, isAbove, isBelow)
}

// instance is a StCall: of a function block, or of a standard one.
func (b *builder) instance(s *api.Stmt) {
	o := api.Op{Code: api.IrCall, B: s.Num, C: s.Area, D: s.Ref}
	if s.Num < 0 {
		o.Code, o.B = api.IrBlock, -s.Num
	}
	b.put(o)
}
