package decl

import (
	"math"

	"relay/api"
	"relay/value"
	"relay/words"
)

// typeReader reads types, some of which have names.
type typeReader struct {
	reader
	types map[string]api.Type
}

// spec is a type as a variable has it: an array and a block's, too.
func (r *typeReader) spec() api.Type {
	first := r.Peek()
	switch {
	case r.Takes("ARRAY"):
		return r.array(first.At)
	case first.Kind == api.TokName:
		r.Skip()
		if t, known := r.types[first.Text]; known {
			return t
		}
		return api.Type{Block: first.Text}
	}
	return r.simple()
}

// array is the array whose first word stood at a place.
func (r *typeReader) array(at int) api.Type {
	r.Want("[")
	from, to := r.bounds()
	r.Want("]")
	r.Want("OF")
	t := r.simple()
	words.Must(elements(from, to) > 0 && from >= math.MinInt32 && to <= math.MaxInt32, at, api.ErrSpec)
	t.Array, t.From, t.To = true, from, to
	return t
}

// simple is a type of one element.
func (r *typeReader) simple() api.Type {
	first := r.Peek()
	kind, isKind := value.Kind(first.Text)
	switch {
	case first.Kind == api.TokName:
		r.Skip()
		t, known := r.types[first.Text]
		words.Must(known && !t.Array, first.At, api.ErrSpec)
		return t
	case r.Takes("STRING"):
		return r.texts(first.At)
	case first.Kind == api.TokWord && isKind:
		r.Skip()
		return r.within(kind, first.At)
	}
	words.Fail(first.At, api.ErrToken)
	return api.Type{}
}

// texts is the type of texts, perhaps with a length, whose first word stood at a place.
func (r *typeReader) texts(at int) api.Type {
	if !r.Takes("[") {
		return api.Type{Kind: api.KString}
	}
	most := r.number()
	r.Want("]")
	words.Must(most >= 1 && most <= api.MaxText, at, api.ErrSpec)
	return api.Type{Kind: api.KString, Max: most}
}

// within is a kind, whose word stood at a place, perhaps with bounds.
func (r *typeReader) within(k api.Kind, at int) api.Type {
	if !r.Takes("(") {
		return api.Type{Kind: k}
	}
	low, high := r.bounds()
	r.Want(")")
	words.Must(isInteger(k) && low <= high && has(k, low) && has(k, high), at, api.ErrSpec)
	return api.Type{Kind: k, Sub: true, Lo: low, Hi: high}
}

func isInteger(k api.Kind) bool { return k >= api.KSint && k <= api.KUlint }
func isRow(k api.Kind) bool     { return k >= api.KByte && k <= api.KLword }

// has tells whether a kind has a number.
func has(k api.Kind, n int) bool {
	_, fault := value.Int(k, n)
	return fault == api.FaultNone
}
