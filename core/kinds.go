package core

import (
	"math"

	"relay/api"
	"relay/value"
)

func isSigned(k api.Kind) bool  { return k >= api.KSint && k <= api.KLint }
func isInteger(k api.Kind) bool { return k >= api.KSint && k <= api.KUlint }
func isRow(k api.Kind) bool     { return k >= api.KByte && k <= api.KLword }

// isCounted tells of which kinds a number without a kind may become one.
func isCounted(k api.Kind) bool { return isInteger(k) || isRow(k) || k == api.KLreal }

// sample is a value of a kind that no operation with a line for the kind has a fault of: 1, where there is one, as 0 divides nothing.
func sample(k api.Kind) api.Value {
	if v, fault := value.Int(k, 1); fault == api.FaultNone {
		return v
	}
	return value.Zero(k)
}

// outcome is the kind that an operation of two kinds comes to; KNone, if there is none of them.
func outcome(op int, a, b api.Kind) api.Kind {
	v, _ := value.Reckon(op, sample(a), sample(b))
	return v.Kind
}

// turns tells whether an operation takes a kind.
func turns(op int, k api.Kind) bool {
	_, fault := value.Turn(op, sample(k))
	return fault == api.FaultNone
}

// has tells whether a kind has a number.
func has(k api.Kind, n int) bool {
	_, fault := value.Int(k, n)
	return fault == api.FaultNone
}

// maxWholeFloat is how far whole numbers are taken for floats: each of them is one.
const maxWholeFloat = 1 << 53

// number is a whole number, perhaps below 0, greater ones too than an int has.
type number struct {
	below bool
	size  uint64
}

// freeOf is the number that an expression of no kind has; false, if it has a kind.
func freeOf(e *api.Expr) (number, bool) {
	below := false
	for e.Op == api.OpNeg && len(e.Kids) == 1 {
		below = !below
		e = &e.Kids[0]
	}
	return number{below, e.Value.Bits}, e.Op == api.ExLit && e.Value.Kind == api.KNone
}

func isFree(e *api.Expr) bool {
	_, is := freeOf(e)
	return is
}

// numberOf is the number of a value of an integer kind.
func numberOf(v api.Value) number {
	if isSigned(v.Kind) && int64(v.Bits) < 0 {
		return number{true, -v.Bits}
	}
	return number{false, v.Bits}
}

// int is the number, if an int has it.
func (n number) int() (int, bool) {
	if n.below {
		return int(-n.size), n.size <= 1<<63
	}
	return int(n.size), n.size <= math.MaxInt64
}

// as is the number as a value of a kind, if that has it.
func (n number) as(k api.Kind) (api.Value, bool) {
	whole, isInt := n.int()
	switch {
	case k == api.KLreal:
		return value.Lreal(float64(whole)), n.size <= maxWholeFloat
	case isInt:
		v, fault := value.Int(k, whole)
		return v, fault == api.FaultNone && isCounted(k)
	}
	return api.Value{Kind: k, Bits: n.size}, !n.below && (k == api.KUlint || k == api.KLword)
}

// asFirst is the number as a value of the first kind that has it of those that a number is taken for by itself.
func (n number) asFirst() (api.Value, bool) {
	for _, k := range [...]api.Kind{api.KDint, api.KLint, api.KUlint} {
		if v, is := n.as(k); is {
			return v, true
		}
	}
	return api.Value{}, false
}
