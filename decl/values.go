package decl

import (
	"math"

	"relay/api"
	"relay/value"
	"relay/words"
)

const maxWholeFloat = 1 << 53

// ordinal is the value of an enumeration's name of a number.
func ordinal(n int) api.Value {
	// There are no more names than an INT has numbers.
	v, _ := value.Int(api.KInt, n)
	return v
}

// written is an initial value as it stands: a name or a literal, perhaps with - ahead, and its first word's place.
type written struct {
	at    int
	below bool
	token api.Token
}

// initial is the initial values of variables of a class and a type, if some are told.
func (p *parser) initial(class int, t api.Type) []api.Value {
	at := p.Peek().At
	if !p.Takes(":=") {
		return nil
	}
	words.Must(class != api.VarInOut && class != api.VarExternal && t.Block == "", at, api.ErrInit)
	isList := p.Takes("[")
	w := p.written()
	words.Must(isList == t.Array, w.at, api.ErrInit)
	l := []api.Value{p.made(t, w)}
	if !isList {
		return l
	}
	for p.Takes(",") {
		w = p.written()
		words.Must(len(l) < Cells(t), w.at, api.ErrInit)
		l = append(l, p.made(t, w))
	}
	p.Want("]")
	return l
}

func (p *parser) written() written {
	w := written{at: p.Peek().At}
	w.below = p.Takes("-")
	w.token = p.Peek()
	isName := w.token.Kind == api.TokName && !w.below
	words.Must(isName || w.token.Kind == api.TokLit, w.token.At, api.ErrToken)
	p.Skip()
	return w
}

// made is the value for a type (of an element, if it is an array) that what is written makes.
func (p *parser) made(t api.Type, w written) api.Value {
	var v api.Value
	can := true
	if w.token.Kind == api.TokName {
		n, known := p.consts[w.token.Text]
		words.Must(known, w.at, api.ErrUnknown)
		v = ordinal(n)
	} else {
		v, can = ofLiteral(t.Kind, w.token.Value, w.below)
	}
	words.Must(can && value.Fits(t, v) == api.FaultNone, w.at, api.ErrInit)
	return v
}

// ofLiteral is what a literal, perhaps with - ahead, makes for a kind.
func ofLiteral(k api.Kind, lit api.Value, below bool) (api.Value, bool) {
	switch {
	case lit.Kind == api.KNone && k == api.KLreal:
		return ofFloat(lit.Bits, below)
	case lit.Kind == api.KNone:
		return ofNumber(k, lit.Bits, below)
	case !below:
		return lit, true
	case lit.Kind == api.KLreal:
		v, fault := value.Turn(api.OpNeg, lit)
		return v, fault == api.FaultNone
	}
	return api.Value{}, false
}

// ofFloat is the LREAL of a whole number; its 0 has no sign.
func ofFloat(n uint64, below bool) (api.Value, bool) {
	if n > maxWholeFloat {
		return api.Value{}, false
	}
	whole := int(n)
	if below {
		whole = -whole
	}
	return value.Lreal(float64(whole)), true
}

// ofNumber is a kind's value of a whole number.
func ofNumber(k api.Kind, n uint64, below bool) (api.Value, bool) {
	isNumber := k == api.KBool || isInteger(k) || isRow(k)
	if n > math.MaxInt64 {
		isLong := k == api.KUlint || k == api.KLword
		return api.Value{Kind: k, Bits: n}, isLong && !below
	}
	whole := int(n)
	if below {
		whole = -whole
	}
	v, fault := value.Int(k, whole)
	return v, isNumber && fault == api.FaultNone
}
