package value

import (
	"cmp"
	"math"
	"math/bits"

	"relay/api"
)

// number is a whole number: its size, and whether it lies below 0 (never with the size 0). Signed and unsigned kinds of 64 bits both fit into it, so that one way of reckoning serves all kinds.
type number struct {
	below bool
	size  uint64
}

func hasNumbers(k api.Kind) bool { return width(k) > 0 || isTime(k) }

func numberFrom(n int64) number {
	if n < 0 {
		return number{true, -uint64(n)}
	}
	return number{false, uint64(n)}
}

// numberOf is the number of a value that may be and has one.
func numberOf(v api.Value) number {
	if isSigned(v.Kind) || v.Kind == api.KTime {
		return numberFrom(int64(v.Bits))
	}
	return number{false, v.Bits}
}

// fitted is the value of a kind that has that number; the fault, if none may be.
func fitted(k api.Kind, n number, fault int) (api.Value, int) {
	v := api.Value{Kind: k, Bits: n.size}
	if n.below {
		v.Bits = -n.size
	}
	// Bits wrap round, so the number is asked back from them.
	if !May(v) || numberOf(v) != n {
		return api.Value{}, fault
	}
	return v, api.FaultNone
}

// order is -1, 0 or 1, as a is below b, b itself, or above it.
func order(a, b number) int {
	switch {
	case a.below && !b.below:
		return -1
	case b.below && !a.below:
		return 1
	case a.below:
		return cmp.Compare(b.size, a.size)
	}
	return cmp.Compare(a.size, b.size)
}

func within(n number, lo, hi int) bool {
	return order(n, numberFrom(int64(lo))) >= 0 && order(n, numberFrom(int64(hi))) <= 0
}

func opposite(n number) number { return signed(!n.below, n.size) }

// signed keeps 0 from having two forms.
func signed(below bool, size uint64) number { return number{below && size != 0, size} }

// sum and product tell by false that the size has no room: then no kind has the number.
func sum(a, b number) (number, bool) {
	switch {
	case a.below == b.below:
		size, carry := bits.Add64(a.size, b.size, 0)
		return signed(a.below, size), carry == 0
	case a.size >= b.size:
		return signed(a.below, a.size-b.size), true
	}
	return signed(b.below, b.size-a.size), true
}

func product(a, b number) (number, bool) {
	high, low := bits.Mul64(a.size, b.size)
	return signed(a.below != b.below, low), high == 0
}

// nearest is the float nearest to a number; sizes are rounded alike on both sides of 0.
func nearest(n number) float64 {
	if n.below {
		return -float64(n.size)
	}
	return float64(n.size)
}

// rounded is the number nearest to a float, of two as near the even one; false, if there is none or its size has no room.
func rounded(f float64) (number, bool) {
	size := math.Abs(math.RoundToEven(f))
	if math.IsNaN(f) || size >= 1<<64 {
		return number{}, false
	}
	return signed(f < 0, uint64(size)), true
}
