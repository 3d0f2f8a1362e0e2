package ir

import (
	"relay/api"
	"relay/value"
)

// loop is a loop that is begun: its number, the register that counts its rounds, where each begins, and where it ends.
type loop struct {
	number, counter, head int
	end                   target
}

// begin begins a loop, its counter first.
func (b *builder) begin(times int) *loop {
	l := &loop{number: len(b.loops), counter: b.number(api.KLint, 0)}
	l.head = len(b.ops)
	b.loops = append(b.loops, api.Loop{Head: l.head, Times: times})
	b.around = append(b.around, l)
	return l
}

// finish ends a loop, which is the innermost one.
func (b *builder) finish(l *loop) {
	b.here(&l.end)
	b.loops[l.number].End = len(b.ops)
	b.around = b.around[:len(b.around)-1]
}

// atMost leads to a target, if so many rounds were begun.
func (b *builder) atMost(l *loop, times int, to *target) {
	most := b.number(api.KLint, times)
	b.unless(b.do(api.OpLt, l.counter, most), to)
}

// further counts a round.
func (b *builder) further(l *loop) {
	sum := b.do(api.OpAdd, l.counter, b.number(api.KLint, 1))
	b.put(api.Op{Code: api.IrMove, A: l.counter, B: sum})
}

// again leads to the next round.
func (b *builder) again(l *loop) { b.put(api.Op{Code: api.IrJump, B: l.head}) }

// over is where a loop comes to that goes on beyond its bound.
func (b *builder) over(t *target) {
	b.here(t)
	b.put(api.Op{Code: api.IrFault, A: api.FaultLoop})
}

// count is a StFor.
func (b *builder) count(s *api.Stmt) {
	l := b.begin(s.Num)
	b.atMost(l, s.Num, &l.end)
	way := b.do(api.OpMul, l.counter, b.whole(part(s, 1)))
	n := b.do(api.OpAdd, b.whole(part(s, 0)), way)
	b.put(api.Op{Code: api.IrStore, A: b.convert(s.Kind, n), B: s.Area, C: s.Ref})
	b.stmts(s.Body)
	b.further(l)
	b.again(l)
	b.finish(l)
}

// whole is a literal's number as a LINT.
func (b *builder) whole(e *api.Expr) int {
	n, _ := value.Number(e.Value)
	return b.number(api.KLint, n)
}

// while is a StWhile.
func (b *builder) while(s *api.Stmt) {
	var over target
	l := b.begin(s.Num)
	b.unless(b.expr(part(s, 0)), &l.end)
	b.atMost(l, s.Num, &over)
	b.further(l)
	b.stmts(s.Body)
	b.again(l)
	b.over(&over)
	b.finish(l)
}

// repeat is a StRepeat.
func (b *builder) repeat(s *api.Stmt) {
	var over target
	l := b.begin(s.Num)
	b.atMost(l, s.Num, &over)
	b.further(l)
	b.stmts(s.Body)
	b.put(api.Op{Code: api.IrUnless, A: b.expr(part(s, 0)), B: l.head})
	b.jump(&l.end)
	b.over(&over)
	b.finish(l)
}
