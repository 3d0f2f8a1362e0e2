package image

import (
	"relay/api"
	"relay/value"
)

// mostStd is the greatest number that a standard function may have.
const mostStd = 255

// mayDo tells whether an instruction of a code may be, beside so many codes.
func mayDo(o api.Op, f api.Flat, codes int) bool {
	if o.Code < api.IrConst || o.Code >= api.NumIr {
		return false
	}
	spans := fieldSpans(o.Code, f, codes)
	for i, n := range [...]int{o.A, o.B, o.C, o.D} {
		if !spans[i].has(n) {
			return false
		}
	}
	return mayReach(o) && mayHold(o)
}

// fieldSpans is what the fields A, B, C, D of an instruction may be; those that play no part are 0.
func fieldSpans(code int, f api.Flat, codes int) [4]span {
	register, slot, place := below(f.Regs), below(f.Slots), below(len(f.Ops))
	area, cell := span{api.AreaThis, api.AreaRef}, span{0, api.MaxCells}
	switch code {
	case api.IrConst, api.IrArg, api.IrCheck, api.IrText:
		return [4]span{register}
	case api.IrMove:
		return [4]span{register, register}
	case api.IrLoad, api.IrStore, api.IrRef:
		return [4]span{register, area, cell}
	case api.IrLoadX, api.IrStoreX, api.IrRefX:
		return [4]span{register, area, cell, register}
	case api.IrDo:
		return [4]span{register, register, register, {api.OpAdd, api.OpGe}}
	case api.IrTurn:
		return [4]span{register, register, {}, {api.OpNeg, api.OpNot}}
	case api.IrConv:
		return [4]span{register, register, {}, {int(api.KBool), int(api.KString)}}
	case api.IrStd:
		return [4]span{register, {}, {0, api.MaxArgs}, {0, mostStd}}
	case api.IrJump:
		return [4]span{{}, place}
	case api.IrUnless:
		return [4]span{register, place}
	case api.IrCall:
		return [4]span{{}, below(codes), area, cell}
	case api.IrBlock:
		return [4]span{{}, {api.FbSr, api.FbTof}, area, cell}
	case api.IrFault:
		return [4]span{{api.FaultOver, api.FaultSteps}}
	case api.IrSpill, api.IrFill:
		return [4]span{register, slot}
	}
	return [4]span{}
}

// mayReach tells whether an instruction's bounds may be.
func mayReach(o api.Op) bool {
	switch o.Code {
	case api.IrLoadX, api.IrStoreX, api.IrRefX:
		// Two ints may lie further apart than an int can tell.
		return o.Lo <= o.Hi && uint(o.Hi)-uint(o.Lo) < api.MaxArray
	case api.IrCheck:
		return o.Lo <= o.Hi
	case api.IrText:
		return o.Lo == 0 && (span{0, api.MaxText}).has(o.Hi)
	}
	return o.Lo == 0 && o.Hi == 0
}

// mayHold tells whether an instruction's value may be.
func mayHold(o api.Op) bool {
	if o.Code == api.IrConst {
		return value.May(o.Value) || o.Value == nowhere()
	}
	return o.Value == api.Value{}
}
