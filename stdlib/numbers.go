package stdlib

import (
	"math"

	"relay/api"
	"relay/value"
)

// reckon goes from the left, and stops at the first fault.
func reckon(op int, args ...api.Value) (api.Value, int) {
	v, fault := args[0], api.FaultNone
	for _, next := range args[1:] {
		if v, fault = value.Reckon(op, v, next); fault != api.FaultNone {
			return api.Value{}, fault
		}
	}
	return v, api.FaultNone
}

func turn(op int, args ...api.Value) (api.Value, int) { return value.Turn(op, args[0]) }

// compare asks each argument and the next one.
func compare(op int, args ...api.Value) (api.Value, int) {
	for i, next := range args[1:] {
		if !holds(op, args[i], next) {
			return value.Bool(false), api.FaultNone
		}
	}
	return value.Bool(true), api.FaultNone
}

func holds(op int, a, b api.Value) bool {
	v, _ := value.Reckon(op, a, b)
	return v == value.Bool(true)
}

func isBelowZero(v api.Value) bool { return holds(api.OpLt, v, value.Zero(v.Kind)) }

func move(_ int, args ...api.Value) (api.Value, int) { return args[0], api.FaultNone }

func size(_ int, args ...api.Value) (api.Value, int) {
	v := args[0]
	if v.Kind == api.KLreal {
		// -0 is not below 0, and has a sign all the same.
		f, _ := value.Float(v)
		return value.Lreal(math.Abs(f)), api.FaultNone
	}
	if isBelowZero(v) {
		return value.Turn(api.OpNeg, v)
	}
	return v, api.FaultNone
}

// outermost is the least or the greatest argument, as op is OpLt or OpGt; beside the NaN nothing is either, so it matters where that stands.
func outermost(op int, args ...api.Value) (api.Value, int) {
	v := args[0]
	for _, next := range args[1:] {
		if holds(op, next, v) {
			v = next
		}
	}
	return v, api.FaultNone
}

func limit(_ int, args ...api.Value) (api.Value, int) {
	least, v, most := args[0], args[1], args[2]
	if holds(api.OpLt, v, least) {
		v = least
	}
	if holds(api.OpGt, v, most) {
		v = most
	}
	return v, api.FaultNone
}

// choose takes FALSE and TRUE as 0 and 1.
func choose(_ int, args ...api.Value) (api.Value, int) {
	n, list := whole(args[0]), args[1:]
	if n < 0 || n >= len(list) {
		return api.Value{}, api.FaultRange
	}
	return list[n], api.FaultNone
}

// whole is a value's number; one that is greater than all ints is as good as the greatest: both are above every length.
func whole(v api.Value) int {
	n, ok := value.Number(v)
	if !ok {
		return math.MaxInt
	}
	return n
}

func truncate(_ int, args ...api.Value) (api.Value, int) {
	f, _ := value.Float(args[0])
	return value.Convert(api.KLint, value.Lreal(math.Trunc(f)))
}

func convert(to int, args ...api.Value) (api.Value, int) {
	return value.Convert(api.Kind(to), args[0])
}

func shiftLeft(_ int, args ...api.Value) (api.Value, int) {
	return moveBits(args, func(row, _, by uint64) uint64 { return row << by })
}

func shiftRight(_ int, args ...api.Value) (api.Value, int) {
	return moveBits(args, func(row, _, by uint64) uint64 { return row >> by })
}

func turnLeft(_ int, args ...api.Value) (api.Value, int) {
	return moveBits(args, func(row, width, by uint64) uint64 { return round(row, width, by%width) })
}

func turnRight(_ int, args ...api.Value) (api.Value, int) {
	return moveBits(args, func(row, width, by uint64) uint64 { return round(row, width, width-by%width) })
}

// round turns a row by no more than its width to the higher bits; what leaves it at the top stands above the width, too.
func round(row, width, by uint64) uint64 { return row<<by | row>>(width-by) }

// moveBits is a row whose bits are moved; those that leave it at the top are cut off.
func moveBits(args []api.Value, move func(row, width, by uint64) uint64) (api.Value, int) {
	v, by := args[0], args[1]
	if isBelowZero(by) {
		return api.Value{}, api.FaultRange
	}
	width := uint64(8) << (v.Kind - api.KByte)
	v.Bits = move(v.Bits, width, by.Bits) & (1<<width - 1)
	return v, api.FaultNone
}
