// Package value is layer 1: see ../../shared/doc/01-value.md.
package value

import (
	"math"

	"relay/api"
)

// A day's nanoseconds; how many days a DATE or a DT may lie in; the bits of the one NaN.
const (
	day     = 86400000000000
	allDays = 84006
	nanBits = 0x7ff8000000000001
)

func isKind(k api.Kind) bool    { return k >= api.KBool && k <= api.KString }
func isSigned(k api.Kind) bool  { return k >= api.KSint && k <= api.KLint }
func isInteger(k api.Kind) bool { return k >= api.KSint && k <= api.KUlint }
func isRow(k api.Kind) bool     { return k >= api.KByte && k <= api.KLword }
func isTime(k api.Kind) bool    { return k >= api.KTime && k <= api.KDt }

// width is how many bits a BOOL, an integer or a bit row has; 0 of other kinds.
func width(k api.Kind) uint {
	switch k {
	case api.KBool:
		return 1
	case api.KSint:
		fallthrough
	case api.KUsint:
		fallthrough
	case api.KByte:
		return 8
	case api.KInt:
		fallthrough
	case api.KUint:
		fallthrough
	case api.KWord:
		return 16
	case api.KDint:
		fallthrough
	case api.KUdint:
		fallthrough
	case api.KDword:
		return 32
	case api.KLint:
		fallthrough
	case api.KUlint:
		fallthrough
	case api.KLword:
		return 64
	}
	return 0
}

// May tells whether a value may be.
func May(v api.Value) bool {
	if v.Kind == api.KString {
		return v.Bits == 0 && len(v.Text) <= api.MaxText
	}
	return v.Text == "" && mayBits(v.Kind, v.Bits)
}

func mayBits(k api.Kind, bits uint64) bool {
	switch k {
	case api.KTime:
		return true
	case api.KDate:
		return bits < allDays*day && bits%day == 0
	case api.KTod:
		return bits < day
	case api.KDt:
		return bits < allDays*day
	case api.KLreal:
		return bits == nanBits || !math.IsNaN(math.Float64frombits(bits))
	}
	w := width(k)
	if isSigned(k) {
		// All bits from the sign's on are alike, if they only extend it.
		high := int64(bits) >> (w - 1)
		return high == 0 || high == -1
	}
	return w > 0 && bits>>w == 0
}

// Fits is the fault that keeps a value from a variable of a type.
func Fits(t api.Type, v api.Value) int {
	switch {
	case !May(v) || v.Kind != t.Kind:
		return api.FaultKind
	case t.Sub && isInteger(v.Kind) && !within(numberOf(v), t.Lo, t.Hi):
		return api.FaultRange
	case v.Kind == api.KString && t.Max >= 1 && len(v.Text) > t.Max:
		return api.FaultText
	}
	return api.FaultNone
}

// Zero is a kind's value of the number 0, of +0, or of the empty text.
func Zero(k api.Kind) api.Value {
	if !isKind(k) {
		return api.Value{}
	}
	return api.Value{Kind: k}
}

// Int is the value of a kind whose number is n.
func Int(k api.Kind, n int) (api.Value, int) {
	if !hasNumbers(k) {
		return api.Value{}, api.FaultKind
	}
	return fitted(k, numberFrom(int64(n)), api.FaultOver)
}

// Bool is TRUE or FALSE.
func Bool(is bool) api.Value {
	if is {
		return api.Value{Kind: api.KBool, Bits: 1}
	}
	return api.Value{Kind: api.KBool}
}

// Lreal is the value of a float.
func Lreal(f float64) api.Value {
	if math.IsNaN(f) {
		// Machines have many; values are told apart by their bits, so one must stand for all.
		return api.Value{Kind: api.KLreal, Bits: nanBits}
	}
	return api.Value{Kind: api.KLreal, Bits: math.Float64bits(f)}
}

// Text is the STRING of a text.
func Text(s string) (api.Value, int) {
	if len(s) > api.MaxText {
		return api.Value{}, api.FaultText
	}
	return api.Value{Kind: api.KString, Text: s}, api.FaultNone
}

// Number is a value's number, if it has one that an int has.
func Number(v api.Value) (int, bool) {
	if !May(v) || !hasNumbers(v.Kind) {
		return 0, false
	}
	n := numberOf(v)
	if !n.below && n.size > math.MaxInt64 {
		return 0, false
	}
	return int(v.Bits), true
}

// Float is an LREAL's float, or the one nearest to an integer.
func Float(v api.Value) (float64, bool) {
	switch {
	case !May(v):
		return 0, false
	case v.Kind == api.KLreal:
		return math.Float64frombits(v.Bits), true
	case isInteger(v.Kind):
		return nearest(numberOf(v)), true
	}
	return 0, false
}
