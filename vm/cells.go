package vm

import "relay/api"

func (f *frame) load(o *api.Op) int {
	cell, fault := f.cell(o.B, o.C)
	return f.giveCell(o.A, cell, fault)
}

func (f *frame) loadElement(o *api.Op) int {
	cell, fault := f.element(o)
	return f.giveCell(o.A, cell, fault)
}

func (f *frame) store(o *api.Op) int {
	cell, fault := f.cell(o.B, o.C)
	return f.keep(cell, f.reg(o.A), fault)
}

func (f *frame) storeElement(o *api.Op) int {
	cell, fault := f.element(o)
	return f.keep(cell, f.reg(o.A), fault)
}

func (f *frame) refer(o *api.Op) int {
	cell, fault := f.cell(o.B, o.C)
	return f.give(o.A, reference(cell), fault)
}

func (f *frame) referElement(o *api.Op) int {
	cell, fault := f.element(o)
	return f.give(o.A, reference(cell), fault)
}

func reference(cell int) api.Value { return api.Value{Kind: api.KRef, Bits: uint64(cell)} }

// element is the number of the cell that lies as many further on as the index is above Lo.
func (f *frame) element(o *api.Op) (int, int) {
	n, fault := numberWithin(f.reg(o.D), o.Lo, o.Hi, api.FaultIndex)
	if fault != api.FaultNone {
		return 0, fault
	}
	first, fault := f.cell(o.B, o.C)
	if fault != api.FaultNone {
		return 0, fault
	}
	// They may lie further apart than an int tells.
	further := uint64(n) - uint64(o.Lo)
	if further >= uint64(len(f.mem)-first) {
		return 0, api.FaultRef
	}
	return first + int(further), api.FaultNone
}

// giveCell lets a register have what a cell has, if it was found without a fault, and passes that on.
func (f *frame) giveCell(reg, cell, fault int) int {
	if fault != api.FaultNone {
		return fault
	}
	return f.give(reg, f.mem[cell], api.FaultNone)
}

// keep lets a cell have a value, if it was found without a fault, and takes the value.
func (f *frame) keep(cell int, v api.Value, fault int) int {
	switch {
	case fault != api.FaultNone:
		return fault
	case !takes(f.cells[cell], v):
		return api.FaultKind
	}
	f.mem[cell] = v
	return api.FaultNone
}
