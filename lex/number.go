package lex

import (
	"math"

	"relay/api"
	"relay/value"
)

// So many digits are a float without rounding, and so is 10 to so much: the one product or quotient of both is the nearest float.
const (
	maxFloatDigits = 15
	maxPower       = 22
	maxWholeFloat  = 1 << 53
)

// number is what digits say: a float, or a whole number.
type number struct {
	end     int
	isFloat bool
	float   float64
	whole   uint64
}

// value is the number as a literal without a kind ahead of it.
func (n number) value() api.Value {
	if n.isFloat {
		return value.Lreal(n.float)
	}
	return api.Value{Bits: n.whole}
}

// number reads the number at i, a part of the word that begins at s.at.
func (s *scanner) number(i int) number {
	digits, end := s.digits(i, 10)
	n := number{}
	base := s.base(i, end)
	switch {
	case base > 0:
		digits, end = s.digits(end+1, base)
		n = number{end: end, whole: s.whole(digits, base)}
	case byteAt(s.src, end) == '.' && isDigit(byteAt(s.src, end+1)):
		n = s.float(digits, end+1)
	default:
		n = number{end: end, whole: s.whole(digits, 10)}
	}
	s.must(!isNameByte(byteAt(s.src, n.end)), s.at)
	return n
}

// base is the base that stands from i to end with # behind it; 0, if none does.
func (s *scanner) base(i, end int) int {
	if byteAt(s.src, end) != '#' {
		return 0
	}
	switch s.src[i:end] {
	case "2":
		return 2
	case "8":
		return 8
	case "16":
		return 16
	}
	return 0
}

// digits is what the digits of a base from i on count, each _ between two of them left out, and the place behind the last one.
func (s *scanner) digits(i, base int) ([]int, int) {
	var l []int
	for {
		d := digitOf(byteAt(s.src, i))
		if d >= base {
			return l, i
		}
		l = append(l, d)
		i++
		if byteAt(s.src, i) == '_' && digitOf(byteAt(s.src, i+1)) < base {
			i++
		}
	}
}

// whole is the number of digits, of which there must be one.
func (s *scanner) whole(digits []int, base int) uint64 {
	s.must(len(digits) > 0, s.at)
	var n uint64
	for _, d := range digits {
		s.must(n <= (math.MaxUint64-uint64(d))/uint64(base), s.at)
		n = n*uint64(base) + uint64(d)
	}
	return n
}

// float is the float of the digits ahead of a point, and of what stands behind it, from i on.
func (s *scanner) float(ahead []int, i int) number {
	behind, end := s.digits(i, 10)
	power := 0
	if capital(byteAt(s.src, end)) == 'E' {
		power, end = s.power(end + 1)
	}
	digits := append(ahead, behind...)
	power -= len(behind)
	s.must(len(digits) <= maxFloatDigits && power >= -maxPower && power <= maxPower, s.at)
	f := float64(s.whole(digits, 10))
	if power < 0 {
		f /= tenTo(-power)
	} else {
		f *= tenTo(power)
	}
	return number{end: end, isFloat: true, float: f}
}

// power is the number behind E, and the place behind it.
func (s *scanner) power(i int) (int, int) {
	sign := byteAt(s.src, i)
	if sign == '+' || sign == '-' {
		i++
	}
	digits, end := s.digits(i, 10)
	n := s.whole(digits, 10)
	s.must(n <= maxPower+maxFloatDigits, s.at)
	if sign == '-' {
		return -int(n), end
	}
	return int(n), end
}

func tenTo(n int) float64 {
	f := 1.0
	for range n {
		f *= 10
	}
	return f
}
