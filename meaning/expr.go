package meaning

import (
	"relay/api"
	"relay/stdlib"
	"relay/value"
)

// sound is what an operation gives, which must have no fault.
func sound(v api.Value, fault int) api.Value {
	must(fault == api.FaultNone, fault)
	return v
}

// eval is what an expression is, in a run from a first cell on.
func (m *machine) eval(e *api.Expr, base int) api.Value {
	if e.Op == api.ExParam {
		// It is part of its call, and no rule by itself.
		return m.eval(kid(e, 0), base)
	}
	m.begin()
	switch {
	case e.Op >= api.OpAdd && e.Op <= api.OpGe:
		left := m.eval(kid(e, 0), base)
		return sound(value.Reckon(e.Op, left, m.eval(kid(e, 1), base)))
	case e.Op == api.OpNeg || e.Op == api.OpNot:
		return sound(value.Turn(e.Op, m.eval(kid(e, 0), base)))
	case e.Op == api.ExConv:
		return sound(value.Convert(e.Kind, m.eval(kid(e, 0), base)))
	case e.Op == api.ExLit:
		return e.Value
	case e.Op == api.ExName || e.Op == api.ExField || e.Op == api.ExIndex:
		return m.get(m.cellOf(e, m.indexOf(e, base), base))
	case e.Op == api.ExRef:
		return m.reference(kid(e, 0), base)
	case e.Op == api.ExCall && e.Area == 0:
		return sound(stdlib.Call(e.Ref, m.all(e.Kids, base)))
	case e.Op == api.ExCall:
		return m.call(e, base)
	}
	panic(stop(api.FaultKind))
}

// kid is a part of an expression, which must be there.
func kid(e *api.Expr, i int) *api.Expr {
	must(i < len(e.Kids), api.FaultKind)
	return &e.Kids[i]
}

// all is what expressions are, from the left to the right.
func (m *machine) all(l []api.Expr, base int) []api.Value {
	values := make([]api.Value, len(l))
	for i := range l {
		values[i] = m.eval(&l[i], base)
	}
	return values
}

// indexOf is the index of a place that has one; the place itself is no rule.
func (m *machine) indexOf(place *api.Expr, base int) api.Value {
	if place.Op != api.ExIndex {
		return api.Value{}
	}
	return m.eval(kid(place, 0), base)
}

// cellOf is the number of a place's cell, with its index.
func (m *machine) cellOf(place *api.Expr, index api.Value, base int) int {
	if place.Op != api.ExIndex {
		must(place.Op == api.ExName || place.Op == api.ExField, api.FaultKind)
		return m.number(place.Area, place.Ref, base)
	}
	must(lies(index, place.From, place.To), api.FaultIndex)
	n, _ := value.Number(index)
	return m.number(place.Area, place.Ref, base) + n - place.From
}

// reference is a reference to a place's cell.
func (m *machine) reference(place *api.Expr, base int) api.Value {
	cell := m.cellOf(place, m.indexOf(place, base), base)
	must(m.isCell(cell), api.FaultRef)
	return api.Value{Kind: api.KRef, Bits: uint64(cell)}
}

// call is a call of a function of the project: all arguments are known ahead of the first one that is set, as they may call it too.
func (m *machine) call(e *api.Expr, base int) api.Value {
	args := m.all(e.Kids, base)
	for i, v := range args {
		p := &e.Kids[i]
		must(p.Area != 1 || lies(v, p.From, p.To), api.FaultRange)
		must(p.Area != 2 || len(v.Text) <= p.To, api.FaultText)
		m.set(e.From+p.Ref, v)
	}
	m.within(e.Ref, e.From)
	return m.get(e.From)
}
