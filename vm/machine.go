package vm

import (
	"slices"

	"relay/api"
)

// invocation is what runs over a machine's cells, within those that called it.
type invocation interface {
	// step does one instruction, and tells the fault that stops the run.
	step() int
}

// machine is cells over which invocations run.
type machine struct {
	codes  []api.Flat
	cells  []api.Cell
	mem    []api.Value
	now    int
	most   int // how many steps there may be
	steps  int // how many were done
	deeds  [api.NumIr]deed
	inner  invocation // the innermost one; nil, when the run has ended
	frames [api.MaxCalls]frame
	deep   int // how many invocations lie within one another
	begun  int // how many there were so far
}

// run goes on until the first invocation has ended, or a fault stops it.
func (m *machine) run() int {
	for m.inner != nil {
		if fault := m.inner.step(); fault != api.FaultNone {
			return fault
		}
	}
	return api.FaultNone
}

// enter begins an invocation of a code within the others; there must be room for it.
func (m *machine) enter(code *api.Flat, base int) {
	f := &m.frames[m.deep]
	m.deep++
	m.begun++
	*f = frame{
		machine: m, code: code, base: base, serial: m.begun, around: m.inner,
		regs: f.regs.ofSize(code.Regs), slots: f.slots.ofSize(code.Slots),
	}
	m.inner = f
}

// leave ends the innermost invocation, around which another one may lie.
func (m *machine) leave(around invocation) {
	m.deep--
	m.inner = around
}

func (m *machine) isCell(number int) bool { return number >= 0 && number < len(m.mem) }

// held is a value, and the serial number of the invocation that put it there.
type held struct {
	value api.Value
	by    int
}

// bank is registers or slots. The invocations of one depth have them one behind the other; they are not cleared in between, so that a call takes no longer the more of them a code says to have: what another invocation put there counts as nothing.
type bank []held

func (b bank) ofSize(n int) bank { return slices.Grow(b[:0], n)[:n] }

// frame is an invocation of a code.
type frame struct {
	*machine
	code   *api.Flat
	base   int
	place  int
	serial int
	regs   bank
	slots  bank
	args   [api.MaxArgs]api.Value
	argc   int
	around invocation
}

// step does the instruction at the place.
func (f *frame) step() int {
	switch {
	case f.steps >= f.most:
		return api.FaultSteps
	case f.place < 0 || f.place >= len(f.code.Ops):
		return api.FaultKind
	}
	f.steps++
	o := &f.code.Ops[f.place]
	f.place++
	if o.Code <= 0 || o.Code >= api.NumIr {
		return api.FaultKind
	}
	d := &f.deeds[o.Code]
	if !f.has(o, d.names) {
		return api.FaultKind
	}
	return d.do(f, o)
}

// has tells whether the registers and the slot that an instruction names are there.
func (f *frame) has(o *api.Op, names fields) bool {
	isAstray := func(field fields, n int, of bank) bool { return names&field != 0 && (n < 0 || n >= len(of)) }
	return !isAstray(inA, o.A, f.regs) && !isAstray(inB, o.B, f.regs) && !isAstray(inC, o.C, f.regs) && !isAstray(inD, o.D, f.regs) &&
		!isAstray(slotB, o.B, f.slots)
}

// get is what a register or slot has.
func (f *frame) get(b bank, n int) api.Value {
	if b[n].by != f.serial {
		return api.Value{}
	}
	return b[n].value
}

// put gives a register or slot a value.
func (f *frame) put(b bank, n int, v api.Value) { b[n] = held{v, f.serial} }

// reg is what a register has.
func (f *frame) reg(n int) api.Value { return f.get(f.regs, n) }

// give lets a register have what an instruction comes to, if there is no fault, and passes that on.
func (f *frame) give(reg int, v api.Value, fault int) int {
	if fault == api.FaultNone {
		f.put(f.regs, reg, v)
	}
	return fault
}

// number is what the number of a cell would be; whether there is one is not asked.
func (f *frame) number(area, n int) (int, int) {
	switch area {
	case api.AreaThis:
		return f.base + n, api.FaultNone
	case api.AreaGlobal:
		return n, api.FaultNone
	case api.AreaRef:
		if at := f.base + n; f.isCell(at) && f.mem[at].Kind == api.KRef {
			return int(f.mem[at].Bits), api.FaultNone
		}
	}
	return 0, api.FaultRef
}

// cell is the number of a cell, which must be there.
func (f *frame) cell(area, n int) (int, int) {
	number, fault := f.number(area, n)
	if fault == api.FaultNone && !f.isCell(number) {
		fault = api.FaultRef
	}
	return number, fault
}
