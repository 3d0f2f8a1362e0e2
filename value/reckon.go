package value

import (
	"math"

	"relay/api"
)

// Reckon is an operation on two values, or the fault that it has.
func Reckon(op int, a, b api.Value) (api.Value, int) {
	if !May(a) || !May(b) {
		return api.Value{}, api.FaultKind
	}
	alike := a.Kind == b.Kind
	switch {
	case alike && op >= api.OpEq && op <= api.OpGe:
		return Bool(holds(op, a, b)), api.FaultNone
	case alike && a.Kind == api.KLreal:
		return reckonFloats(op, math.Float64frombits(a.Bits), math.Float64frombits(b.Bits))
	case alike && hasBits(a.Kind) && op >= api.OpAnd && op <= api.OpXor:
		return api.Value{Kind: a.Kind, Bits: reckonBits(op, a.Bits, b.Bits)}, api.FaultNone
	}
	k := outcome(op, a.Kind, b.Kind)
	if k == api.KNone {
		return api.Value{}, api.FaultKind
	}
	n, fault := reckonNumbers(op, numberOf(a), numberOf(b))
	if fault != api.FaultNone {
		return api.Value{}, fault
	}
	return fitted(k, n, api.FaultOver)
}

// hasBits tells of which kinds the bits are reckoned one by one.
func hasBits(k api.Kind) bool { return k == api.KBool || isRow(k) }

// outcome is the kind that numbers of two kinds come to; KNone, if they are not reckoned so.
func outcome(op int, a, b api.Kind) api.Kind {
	adds := op == api.OpAdd || op == api.OpSub
	scales := op == api.OpMul || op == api.OpDiv
	switch {
	case isInteger(a) && a == b && op >= api.OpAdd && op <= api.OpMod:
		return a
	case adds && b == api.KTime && (a == api.KTime || a == api.KTod || a == api.KDt):
		return a
	case op == api.OpSub && a == b && isTime(a):
		return api.KTime
	case scales && a == api.KTime && b == api.KLint:
		return api.KTime
	}
	return api.KNone
}

func reckonNumbers(op int, a, b number) (number, int) {
	var n number
	room := true
	switch {
	case op == api.OpAdd:
		n, room = sum(a, b)
	case op == api.OpSub:
		n, room = sum(a, opposite(b))
	case op == api.OpMul:
		n, room = product(a, b)
	case b.size == 0:
		return number{}, api.FaultZero
	case op == api.OpDiv:
		n = signed(a.below != b.below, a.size/b.size)
	default:
		n = signed(a.below, a.size%b.size)
	}
	if !room {
		return number{}, api.FaultOver
	}
	return n, api.FaultNone
}

func reckonFloats(op int, a, b float64) (api.Value, int) {
	switch op {
	case api.OpAdd:
		return Lreal(a + b), api.FaultNone
	case api.OpSub:
		return Lreal(a - b), api.FaultNone
	case api.OpMul:
		return Lreal(a * b), api.FaultNone
	case api.OpDiv:
		return Lreal(a / b), api.FaultNone
	}
	return api.Value{}, api.FaultKind
}

func reckonBits(op int, a, b uint64) uint64 {
	switch op {
	case api.OpAnd:
		return a & b
	case api.OpOr:
		return a | b
	}
	return a ^ b
}

// holds tells whether a comparison of two values of one kind is true.
func holds(op int, a, b api.Value) bool {
	less, same, more := compared(a, b)
	switch op {
	case api.OpEq:
		return same
	case api.OpNe:
		return !same
	case api.OpLt:
		return less
	case api.OpLe:
		return less || same
	case api.OpGt:
		return more
	}
	return more || same
}

// compared tells how a lies to b; with the NaN none of the three is true.
func compared(a, b api.Value) (less, same, more bool) {
	switch a.Kind {
	case api.KString:
		return a.Text < b.Text, a.Text == b.Text, a.Text > b.Text
	case api.KLreal:
		x, y := math.Float64frombits(a.Bits), math.Float64frombits(b.Bits)
		return x < y, x == y, x > y
	}
	n := order(numberOf(a), numberOf(b))
	return n < 0, n == 0, n > 0
}

// Turn is an operation on one value, or the fault that it has.
func Turn(op int, a api.Value) (api.Value, int) {
	switch {
	case !May(a):
		return api.Value{}, api.FaultKind
	case op == api.OpNeg && (isSigned(a.Kind) || a.Kind == api.KTime):
		return fitted(a.Kind, opposite(numberOf(a)), api.FaultOver)
	case op == api.OpNeg && a.Kind == api.KLreal:
		return Lreal(-math.Float64frombits(a.Bits)), api.FaultNone
	case op == api.OpNot && hasBits(a.Kind):
		return api.Value{Kind: a.Kind, Bits: a.Bits ^ (1<<width(a.Kind) - 1)}, api.FaultNone
	}
	return api.Value{}, api.FaultKind
}
