package value

import (
	"math"

	"relay/api"
)

// Convert is a value as of another kind, or the fault that keeps it from being one.
func Convert(k api.Kind, v api.Value) (api.Value, int) {
	switch {
	case !May(v) || !isKind(k):
		return api.Value{}, api.FaultKind
	case v.Kind == k:
		return v, api.FaultNone
	case v.Kind == api.KLreal:
		return fromFloat(k, math.Float64frombits(v.Bits))
	case v.Kind == api.KString:
		return fromText(k, v.Text)
	case isTime(v.Kind):
		return fromTime(k, v)
	}
	return fromPlain(k, v)
}

// fromPlain is of a BOOL, an integer or a bit row.
func fromPlain(k api.Kind, v api.Value) (api.Value, int) {
	switch {
	case k == api.KBool:
		return Bool(v.Bits != 0), api.FaultNone
	case isInteger(k) || isRow(k) || isTime(k) && v.Kind == api.KLint:
		return fitted(k, numberOf(v), api.FaultConvert)
	case k == api.KLreal:
		return Lreal(nearest(numberOf(v))), api.FaultNone
	case k == api.KString && !isRow(v.Kind):
		return Text(Print(v))
	}
	return api.Value{}, api.FaultKind
}

func fromFloat(k api.Kind, f float64) (api.Value, int) {
	switch {
	case k == api.KBool && math.IsNaN(f):
		return api.Value{}, api.FaultConvert
	case k == api.KBool:
		return Bool(f != 0), api.FaultNone
	case isInteger(k) || isRow(k):
		n, ok := rounded(f)
		if !ok {
			return api.Value{}, api.FaultConvert
		}
		return fitted(k, n, api.FaultConvert)
	}
	return api.Value{}, api.FaultKind
}

func fromTime(k api.Kind, v api.Value) (api.Value, int) {
	switch {
	case k == api.KLint:
		return fitted(k, numberOf(v), api.FaultConvert)
	case k == api.KDate && v.Kind == api.KDt:
		return api.Value{Kind: k, Bits: v.Bits - v.Bits%day}, api.FaultNone
	case k == api.KTod && v.Kind == api.KDt:
		return api.Value{Kind: k, Bits: v.Bits % day}, api.FaultNone
	}
	return api.Value{}, api.FaultKind
}

func fromText(k api.Kind, s string) (api.Value, int) {
	switch {
	case k == api.KBool && (s == trueWord || s == falseWord):
		return Bool(s == trueWord), api.FaultNone
	case k == api.KBool:
		return api.Value{}, api.FaultConvert
	case isInteger(k):
		n, ok := readNumber(s)
		if !ok {
			return api.Value{}, api.FaultConvert
		}
		return fitted(k, n, api.FaultConvert)
	}
	return api.Value{}, api.FaultKind
}
