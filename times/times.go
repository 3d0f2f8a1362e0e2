// Package times is layer 2: see ../../shared/doc/02-times.md.
package times

import (
	"relay/api"
	"relay/value"
)

// Nanoseconds.
const (
	second = 1000000000
	minute = 60 * second
	hour   = 60 * minute
	day    = 24 * hour
)

// Parse is the value that a text says behind a literal's mark (TIME#, DATE#, TOD#, DT#).
func Parse(k api.Kind, s string) (api.Value, bool) {
	n, ok := 0, false
	switch k {
	case api.KTime:
		n, ok = readSpan(s)
	case api.KDate:
		n, ok = readDate(s)
	case api.KTod:
		n, ok = readClock(s)
	case api.KDt:
		n, ok = readBoth(s)
	}
	if !ok {
		return api.Value{}, false
	}
	v, fault := value.Int(k, n)
	return v, fault == api.FaultNone
}

// Print is a value's literal.
func Print(v api.Value) string {
	if !value.May(v) {
		return ""
	}
	switch v.Kind {
	case api.KTime:
		return "T#" + printSpan(int64(v.Bits))
	case api.KDate:
		return "D#" + printDate(v.Bits)
	case api.KTod:
		return "TOD#" + printClock(v.Bits)
	case api.KDt:
		return "DT#" + printDate(v.Bits) + "-" + printClock(v.Bits%day)
	}
	return ""
}

// Join is a day and a time of day together.
func Join(d, t api.Value) (api.Value, bool) {
	if d.Kind != api.KDate || t.Kind != api.KTod || !value.May(d) || !value.May(t) {
		return api.Value{}, false
	}
	return api.Value{Kind: api.KDt, Bits: d.Bits + t.Bits}, true
}

// Part is the day, or the time of day, of both together.
func Part(k api.Kind, v api.Value) (api.Value, bool) {
	if v.Kind != api.KDt || k != api.KDate && k != api.KTod {
		return api.Value{}, false
	}
	part, fault := value.Convert(k, v)
	return part, fault == api.FaultNone
}
