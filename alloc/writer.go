package alloc

import (
	"relay/api"
	"relay/ir"
)

// writer writes a code again, over few registers.
type writer struct {
	homes map[int]home
	regs  int
	ops   []api.Op
	loops []api.Loop
}

// code writes all instructions, and leads jumps and loops to where they begin now.
func (w *writer) code(f api.Flat) {
	var begins []int
	for _, o := range f.Ops {
		begins = append(begins, len(w.ops))
		w.op(o)
	}
	begins = append(begins, len(w.ops))
	for i := range w.ops {
		if o := &w.ops[i]; isJump(o.Code) {
			o.B = begins[o.B]
		}
	}
	for _, l := range f.Loops {
		w.loops = append(w.loops, api.Loop{Head: begins[l.Head], End: begins[l.End], Times: l.Times})
	}
}

func (w *writer) put(o api.Op) { w.ops = append(w.ops, o) }

// op writes an instruction, what it reads out of slots ahead of it, and behind it what it sets that waits.
func (w *writer) op(o api.Op) {
	given, isGiven := w.homes[ir.Gives(o)]
	w.fill(&o)
	switch hand := w.regs - 1; {
	case !isGiven:
		w.put(o)
	case given.waits:
		o.A = hand
		w.put(o)
		w.put(api.Op{Code: api.IrSpill, A: hand, B: given.number})
	default:
		o.A = given.number
		w.put(o)
	}
}

// fill puts what an instruction reads into registers, and names these in it.
func (w *writer) fill(o *api.Op) {
	hand := w.regs - hands
	now := map[int]int{}
	for _, reg := range ir.Uses(*o) {
		at := w.homes[reg]
		if !at.waits {
			now[reg] = at.number
			continue
		}
		w.put(api.Op{Code: api.IrFill, A: hand, B: at.number})
		now[reg] = hand
		hand++
	}
	for _, field := range readFields(o) {
		*field = now[*field]
	}
}

// readFields is the fields of an instruction that name registers which it reads. (ir.Uses tells only what they name.)
func readFields(o *api.Op) []*int {
	switch o.Code {
	case api.IrMove, api.IrTurn, api.IrConv:
		return []*int{&o.B}
	case api.IrStore, api.IrArg, api.IrCheck, api.IrText, api.IrUnless:
		return []*int{&o.A}
	case api.IrLoadX, api.IrRefX:
		return []*int{&o.D}
	case api.IrStoreX:
		return []*int{&o.A, &o.D}
	case api.IrDo:
		return []*int{&o.B, &o.C}
	}
	return nil
}
