package decl

import (
	"math"

	"relay/api"
	"relay/value"
)

// typeReader reads types, some of which have names.
type typeReader struct {
	reader
	types map[string]api.Type
}

// spec is a type as a variable has it: an array and a block's, too.
func (r *typeReader) spec() api.Type {
	first := r.peek()
	switch {
	case r.takes("ARRAY"):
		return r.array(first.At)
	case first.Kind == api.TokName:
		r.next++
		if t, known := r.types[first.Text]; known {
			return t
		}
		return api.Type{Block: first.Text}
	}
	return r.simple()
}

// array is the array whose first word stood at a place.
func (r *typeReader) array(at int) api.Type {
	r.want("[")
	from, to := r.bounds()
	r.want("]")
	r.want("OF")
	t := r.simple()
	must(elements(from, to) > 0 && from >= math.MinInt32 && to <= math.MaxInt32, at, api.ErrSpec)
	t.Array, t.From, t.To = true, from, to
	return t
}

// simple is a type of one element.
func (r *typeReader) simple() api.Type {
	first := r.peek()
	kind, isKind := value.Kind(first.Text)
	switch {
	case first.Kind == api.TokName:
		r.next++
		t, known := r.types[first.Text]
		must(known && !t.Array, first.At, api.ErrSpec)
		return t
	case r.takes("STRING"):
		return r.texts(first.At)
	case first.Kind == api.TokWord && isKind:
		r.next++
		return r.within(kind, first.At)
	}
	fail(first.At, api.ErrToken)
	return api.Type{}
}

// texts is the type of texts, perhaps with a length, whose first word stood at a place.
func (r *typeReader) texts(at int) api.Type {
	if !r.takes("[") {
		return api.Type{Kind: api.KString}
	}
	most := r.number()
	r.want("]")
	must(most >= 1 && most <= api.MaxText, at, api.ErrSpec)
	return api.Type{Kind: api.KString, Max: most}
}

// within is a kind, whose word stood at a place, perhaps with bounds.
func (r *typeReader) within(k api.Kind, at int) api.Type {
	if !r.takes("(") {
		return api.Type{Kind: k}
	}
	low, high := r.bounds()
	r.want(")")
	must(isInteger(k) && low <= high && has(k, low) && has(k, high), at, api.ErrSpec)
	return api.Type{Kind: k, Sub: true, Lo: low, Hi: high}
}

func isInteger(k api.Kind) bool { return k >= api.KSint && k <= api.KUlint }
func isRow(k api.Kind) bool     { return k >= api.KByte && k <= api.KLword }

// has tells whether a kind has a number.
func has(k api.Kind, n int) bool {
	_, fault := value.Int(k, n)
	return fault == api.FaultNone
}
