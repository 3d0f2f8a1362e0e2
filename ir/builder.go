package ir

import (
	"relay/api"
	"relay/value"
	"relay/words"
)

// builder makes instructions, one behind the other.
type builder struct {
	ops    []api.Op
	regs   int // how many registers are used
	loops  []api.Loop
	around []*loop // those that are begun, the innermost last
}

// put puts an instruction behind the others, and tells its place.
func (b *builder) put(o api.Op) int {
	words.Must(len(b.ops) < api.MaxCode, 0, api.ErrSize)
	b.ops = append(b.ops, o)
	return len(b.ops) - 1
}

// give puts an instruction that sets a fresh register, and tells that one.
func (b *builder) give(o api.Op) int {
	o.A = b.regs
	b.regs++
	b.put(o)
	return o.A
}

func (b *builder) constant(v api.Value) int {
	return b.give(api.Op{Code: api.IrConst, Value: v})
}

// number is a constant of a kind.
func (b *builder) number(k api.Kind, n int) int {
	v, _ := value.Int(k, n)
	return b.constant(v)
}

// do is an operation of two registers.
func (b *builder) do(op, left, right int) int {
	return b.give(api.Op{Code: api.IrDo, B: left, C: right, D: op})
}

// target is a place that jumps lead to. It may be known later than they are put; they are patched then.
type target struct{ patches []func(place int) }

// lead puts a jump to a target.
func (b *builder) lead(o api.Op, to *target) {
	at := b.put(o)
	to.patches = append(to.patches, func(place int) { b.ops[at].B = place })
}

func (b *builder) jump(to *target) { b.lead(api.Op{Code: api.IrJump}, to) }

// unless puts a jump that is taken if a register is false.
func (b *builder) unless(reg int, to *target) {
	b.lead(api.Op{Code: api.IrUnless, A: reg}, to)
}

// here makes the next place the one that jumps to a target lead to.
func (b *builder) here(t *target) {
	for _, patch := range t.patches {
		patch(len(b.ops))
	}
	t.patches = nil
}
