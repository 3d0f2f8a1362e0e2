package vm

import (
	"relay/api"
	"relay/blocks"
	"relay/stdlib"
	"relay/value"
)

// fields is which fields of an instruction are registers, and whether B is a slot.
type fields uint8

const (
	inA fields = 1 << iota
	inB
	inC
	inD
	slotB
)

// deed is an instruction: what it names, and what it does, which tells its fault.
type deed struct {
	names fields
	do    func(f *frame, o *api.Op) int
}

// deeds is the instructions by their Codes.
func deeds() [api.NumIr]deed {
	return [api.NumIr]deed{
		api.IrConst:  {inA, (*frame).constant},
		api.IrMove:   {inA | inB, (*frame).move},
		api.IrLoad:   {inA, (*frame).load},
		api.IrStore:  {inA, (*frame).store},
		api.IrLoadX:  {inA | inD, (*frame).loadElement},
		api.IrStoreX: {inA | inD, (*frame).storeElement},
		api.IrRef:    {inA, (*frame).refer},
		api.IrRefX:   {inA | inD, (*frame).referElement},
		api.IrDo:     {inA | inB | inC, (*frame).reckon},
		api.IrTurn:   {inA | inB, (*frame).turn},
		api.IrConv:   {inA | inB, (*frame).convert},
		api.IrArg:    {inA, (*frame).argument},
		api.IrStd:    {inA, (*frame).function},
		api.IrCheck:  {inA, (*frame).checkRange},
		api.IrText:   {inA, (*frame).checkText},
		api.IrJump:   {0, (*frame).jump},
		api.IrUnless: {inA, (*frame).unless},
		api.IrCall:   {0, (*frame).call},
		api.IrBlock:  {0, (*frame).block},
		api.IrFault:  {0, (*frame).fault},
		api.IrReturn: {0, (*frame).giveBack},
		api.IrSpill:  {inA | slotB, (*frame).spill},
		api.IrFill:   {inA | slotB, (*frame).fill},
	}
}

func (f *frame) constant(o *api.Op) int { return f.give(o.A, o.Value, api.FaultNone) }

func (f *frame) move(o *api.Op) int { return f.give(o.A, f.reg(o.B), api.FaultNone) }

func (f *frame) reckon(o *api.Op) int {
	v, fault := value.Reckon(o.D, f.reg(o.B), f.reg(o.C))
	return f.give(o.A, v, fault)
}

func (f *frame) turn(o *api.Op) int {
	v, fault := value.Turn(o.D, f.reg(o.B))
	return f.give(o.A, v, fault)
}

func (f *frame) convert(o *api.Op) int {
	k := api.Kind(o.D)
	if int(k) != o.D {
		// A kind has fewer bits than the field.
		return api.FaultKind
	}
	v, fault := value.Convert(k, f.reg(o.B))
	return f.give(o.A, v, fault)
}

func (f *frame) argument(o *api.Op) int {
	if f.argc == len(f.args) {
		return api.FaultKind
	}
	f.args[f.argc] = f.reg(o.A)
	f.argc++
	return api.FaultNone
}

func (f *frame) function(o *api.Op) int {
	if o.C < 0 || o.C > f.argc {
		return api.FaultKind
	}
	first := f.argc - o.C
	v, fault := stdlib.Call(o.D, f.args[first:f.argc])
	f.argc = first
	return f.give(o.A, v, fault)
}

// isInteger tells whether a value is an integer that may be.
func isInteger(v api.Value) bool {
	return v.Kind >= api.KSint && v.Kind <= api.KUlint && value.May(v)
}

// numberWithin is an integer's number, which must lie from low to high: else there is the fault that is handed in. One that no int has lies nowhere.
func numberWithin(v api.Value, low, high, beyond int) (int, int) {
	if !isInteger(v) {
		return 0, api.FaultKind
	}
	n, is := value.Number(v)
	if !is || n < low || n > high {
		return 0, beyond
	}
	return n, api.FaultNone
}

func (f *frame) checkRange(o *api.Op) int {
	_, fault := numberWithin(f.reg(o.A), o.Lo, o.Hi, api.FaultRange)
	return fault
}

func (f *frame) checkText(o *api.Op) int {
	v := f.reg(o.A)
	switch {
	case v.Kind != api.KString || !value.May(v):
		return api.FaultKind
	case len(v.Text) > o.Hi:
		return api.FaultText
	}
	return api.FaultNone
}

func (f *frame) jump(o *api.Op) int {
	f.place = o.B
	return api.FaultNone
}

func (f *frame) unless(o *api.Op) int {
	switch f.reg(o.A) {
	case value.Bool(true):
	case value.Bool(false):
		f.place = o.B
	default:
		return api.FaultKind
	}
	return api.FaultNone
}

func (f *frame) call(o *api.Op) int {
	switch {
	case o.B < 0 || o.B >= len(f.codes):
		return api.FaultKind
	case f.deep == len(f.frames):
		return api.FaultSteps
	}
	base, fault := f.number(o.C, o.D)
	if fault != api.FaultNone {
		return fault
	}
	code := &f.codes[o.B]
	// Where nothing needs a cell, the end of the cells is as good a base as any.
	if isEnd := code.Cells <= 0 && base == len(f.mem); !isEnd && !f.isCell(base) {
		return api.FaultRef
	}
	f.enter(code, base)
	return api.FaultNone
}

func (f *frame) giveBack(*api.Op) int {
	f.leave(f.around)
	return api.FaultNone
}

func (f *frame) block(o *api.Op) int {
	size := blocks.Size(o.B)
	if size == 0 {
		return api.FaultKind
	}
	first, fault := f.cell(o.C, o.D)
	switch {
	case fault != api.FaultNone:
		return fault
	case size > len(f.mem)-first:
		return api.FaultRef
	}
	after, fault := blocks.Step(o.B, f.mem[first:first+size], f.now)
	copy(f.mem[first:], after)
	return fault
}

func (f *frame) fault(o *api.Op) int {
	if o.A < api.FaultOver || o.A > api.FaultSteps {
		return api.FaultKind
	}
	return o.A
}

func (f *frame) spill(o *api.Op) int {
	f.put(f.slots, o.B, f.reg(o.A))
	return api.FaultNone
}

func (f *frame) fill(o *api.Op) int { return f.give(o.A, f.get(f.slots, o.B), api.FaultNone) }
