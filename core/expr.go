package core

import (
	"relay/api"
	"relay/words"
)

// literal is a value as an expression.
func literal(at int, v api.Value) api.Expr {
	return api.Expr{Op: api.ExLit, At: at, Value: v, Kind: v.Kind}
}

// converted is an expression as one of another kind.
func converted(e api.Expr, to api.Kind) api.Expr {
	return api.Expr{Op: api.ExConv, Kids: []api.Expr{e}, Kind: to}
}

// expr is an expression, typed; with a wanted kind, it is of that one.
func (c *checker) expr(e *api.Expr, want api.Kind) api.Expr {
	if n, is := freeOf(e); is {
		return counted(e.At, n, want)
	}
	return c.firm(e, want)
}

// firm is an expression that is no number without a kind, typed.
func (c *checker) firm(e *api.Expr, want api.Kind) api.Expr {
	t := c.kinded(e, want)
	if want == api.KNone || t.Kind == want {
		return t
	}
	words.Must(Widens(t.Kind, want), e.At, api.ErrMust)
	return converted(t, want)
}

// counted is a number of no kind as a literal of a wanted kind, or of the first one that has it.
func counted(at int, n number, want api.Kind) api.Expr {
	v, is := n.asFirst()
	if want != api.KNone {
		v, is = n.as(want)
	}
	words.Must(is, at, api.ErrMust)
	return literal(at, v)
}

// kinded is an expression of a kind of its own, typed; what is wanted hints at the kind of numbers within it.
func (c *checker) kinded(e *api.Expr, want api.Kind) api.Expr {
	switch {
	case e.Op >= api.OpAdd && e.Op <= api.OpGe && len(e.Kids) == 2:
		return c.both(e, want)
	case (e.Op == api.OpNeg || e.Op == api.OpNot) && len(e.Kids) == 1:
		return c.turned(e, want)
	case e.Op == api.ExLit:
		return literal(e.At, e.Value)
	case e.Op == api.ExName:
		return c.name(e)
	case e.Op == api.ExIndex:
		return c.element(e, c.meant(e.Name, e.At))
	case e.Op == api.ExField:
		return c.field(e)
	case e.Op == api.ExCall:
		return c.call(e)
	}
	words.Fail(e.At, api.ErrPlace)
	return api.Expr{}
}

// name is a variable of one value, or a name of one.
func (c *checker) name(e *api.Expr) api.Expr {
	t := c.meant(e.Name, e.At)
	if t.area == 0 {
		return literal(e.At, t.value)
	}
	words.Must(!t.of.Array, e.At, api.ErrMust)
	words.Must(!t.isInstance(), e.At, api.ErrPlace)
	return variable(e, t)
}

func variable(e *api.Expr, t thing) api.Expr {
	return api.Expr{Op: api.ExName, At: e.At, Name: e.Name, Kind: t.of.Kind, Area: t.area, Ref: t.ref}
}

// element is an element of what a name means.
func (c *checker) element(e *api.Expr, t thing) api.Expr {
	words.Must(t.hasElements() && len(e.Kids) == 1, e.At, api.ErrPlace)
	return api.Expr{
		Op: api.ExIndex, At: e.At, Name: e.Name, Kids: []api.Expr{c.index(&e.Kids[0])},
		Kind: t.of.Kind, Area: t.area, Ref: t.ref, From: t.of.From, To: t.of.To,
	}
}

// index is an index: of any integer kind, but a number without one is a DINT.
func (c *checker) index(e *api.Expr) api.Expr {
	if isFree(e) {
		return c.expr(e, api.KDint)
	}
	return c.whole(e)
}

// whole is an expression of some integer kind.
func (c *checker) whole(e *api.Expr) api.Expr {
	t := c.expr(e, api.KNone)
	words.Must(isInteger(t.Kind), e.At, api.ErrMust)
	return t
}

// field is a variable of an instance that can be asked from outside.
func (c *checker) field(e *api.Expr) api.Expr {
	t := c.meant(e.Name, e.At)
	number, is := c.block(t.of.Block)
	words.Must(is, e.At, api.ErrPlace)
	f, is := c.formalOf(number, e.Field)
	words.Must(is && f.isRead(), e.At, api.ErrUnknown)
	return inner(e.At, e.Name, t, f)
}

// inner is a variable of an instance.
func inner(at int, name string, t thing, f formal) api.Expr {
	return api.Expr{Op: api.ExField, At: at, Name: name, Field: f.Name, Kind: f.Type.Kind, Area: t.area, Ref: t.ref + f.ahead}
}

// turned is an operation of one operand.
func (c *checker) turned(e *api.Expr, want api.Kind) api.Expr {
	operand := c.expr
	if e.Op == api.OpNeg {
		// With a number behind it the whole would be one; so none is looked for again along a row of signs.
		operand = c.firm
	}
	a := operand(&e.Kids[0], want)
	words.Must(turns(e.Op, a.Kind), e.At, api.ErrMust)
	return api.Expr{Op: e.Op, At: e.At, Kids: []api.Expr{a}, Kind: a.Kind}
}

// both is an operation of two operands.
func (c *checker) both(e *api.Expr, want api.Kind) api.Expr {
	a, b := c.operands(e, want)
	k := outcome(e.Op, a.Kind, b.Kind)
	if k == api.KNone {
		a, b = joined(e.Op, a, b)
		k = outcome(e.Op, a.Kind, b.Kind)
	}
	words.Must(k != api.KNone, e.At, api.ErrMust)
	return api.Expr{Op: e.Op, At: e.At, Kids: []api.Expr{a, b}, Kind: k}
}

// scales tells whether an operation makes a TIME longer or shorter.
func scales(op int) bool { return op == api.OpMul || op == api.OpDiv }

// operands is the operands of an operation, typed; a number of no kind goes by the other one.
func (c *checker) operands(e *api.Expr, want api.Kind) (api.Expr, api.Expr) {
	left, right := &e.Kids[0], &e.Kids[1]
	leftFree, rightFree := isFree(left), isFree(right)
	switch {
	case leftFree && !rightFree:
		b := c.expr(right, api.KNone)
		return c.expr(left, b.Kind), b
	case rightFree && !leftFree:
		a := c.expr(left, api.KNone)
		if scales(e.Op) && a.Kind == api.KTime {
			return a, c.expr(right, api.KLint)
		}
		return a, c.expr(right, a.Kind)
	case leftFree && (isInteger(want) || want == api.KLreal):
		return c.expr(left, want), c.expr(right, want)
	}
	return c.expr(left, api.KNone), c.expr(right, api.KNone)
}

// joined is two operands, one of them converted to the other one's kind, or beside a TIME to LINT, if that may be.
func joined(op int, a, b api.Expr) (api.Expr, api.Expr) {
	switch {
	case Widens(a.Kind, b.Kind):
		return converted(a, b.Kind), b
	case Widens(b.Kind, a.Kind):
		return a, converted(b, a.Kind)
	case scales(op) && a.Kind == api.KTime && isInteger(b.Kind):
		return a, converted(b, api.KLint)
	}
	return a, b
}
