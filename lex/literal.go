package lex

import (
	"math"

	"relay/api"
	"relay/times"
	"relay/value"
)

// ofKind is the literal whose kind stands ahead of i.
func (s *scanner) ofKind(k api.Kind, i int) api.Token {
	switch {
	case k >= api.KTime && k <= api.KDt:
		end := runEnd(s.src, i, isTimeByte)
		v, ok := times.Parse(k, s.src[i:end])
		s.must(ok, s.at)
		return s.literal(end, v)
	case k == api.KString:
		s.must(byteAt(s.src, i) == '\'', s.at)
		end := s.textEnd(i)
		return s.literal(end, s.text(i, end))
	case k == api.KBool && isLetter(byteAt(s.src, i)):
		end := runEnd(s.src, i, isNameByte)
		word := capitals(s.src[i:end])
		s.must(word == trueWord || word == falseWord, s.at)
		return s.literal(end, value.Bool(word == trueWord))
	}
	below := byteAt(s.src, i) == '-'
	if below {
		i++
	}
	s.must(isDigit(byteAt(s.src, i)), s.at)
	n := s.number(i)
	v, ok := n.as(k, below)
	s.must(ok, s.at)
	return s.literal(n.end, v)
}

// as is the value of a kind that has the number, or the one below 0.
func (n number) as(k api.Kind, below bool) (api.Value, bool) {
	switch {
	case k == api.KLreal:
		return n.asFloat(below)
	case n.isFloat:
		return api.Value{}, false
	case !below && n.whole > math.MaxInt64:
		return api.Value{Kind: k, Bits: n.whole}, k == api.KUlint || k == api.KLword
	case below && n.whole > 1<<63:
		return api.Value{}, false
	}
	whole := int(n.whole)
	if below {
		whole = -whole
	}
	v, fault := value.Int(k, whole)
	return v, fault == api.FaultNone
}

func (n number) asFloat(below bool) (api.Value, bool) {
	f := n.float
	if !n.isFloat {
		f = float64(n.whole)
	}
	if n.whole > maxWholeFloat {
		return api.Value{}, false
	}
	v := value.Lreal(f)
	if !below {
		return v, true
	}
	// By its sign alone: -0 is another LREAL than 0.
	v, fault := value.Turn(api.OpNeg, v)
	return v, fault == api.FaultNone
}
