package core

import (
	"relay/api"
	"relay/words"
)

// set is an assignment to a place of a type.
func set(at int, place api.Expr, t api.Type, e api.Expr) api.Stmt {
	s := api.Stmt{Op: api.StSet, At: at, Exprs: []api.Expr{place, e}, Kind: place.Kind}
	if t.Sub {
		s.Ranges = []api.Range{{Lo: t.Lo, Hi: t.Hi}}
	}
	if t.Kind == api.KString {
		s.Num = longest(t)
	}
	return s
}

// longest is how many bytes a text of a type has at most.
func longest(t api.Type) int {
	if t.Max < 1 {
		return api.MaxText
	}
	return t.Max
}

// place is a place that may be assigned, and its type, or its array's.
func (c *checker) place(e *api.Expr) (api.Expr, api.Type) {
	isPlace := e.Op == api.ExName || e.Op == api.ExIndex
	words.Must(isPlace || e.Op == api.ExField, e.At, api.ErrPlace)
	t := c.meant(e.Name, e.At)
	words.Must(isPlace && t.area != 0 && !t.isInstance(), e.At, api.ErrPlace)
	words.Must(e.Op == api.ExName || t.hasElements(), e.At, api.ErrPlace)
	words.Must(e.Op == api.ExIndex || !t.of.Array, e.At, api.ErrMust)
	words.Must(c.mayAssign(e.Name, t), e.At, api.ErrAssign)
	if e.Op == api.ExIndex {
		return c.element(e, t), t.of
	}
	return variable(e, t), t.of
}

// stmts is statements, typed.
func (c *checker) stmts(l []api.Stmt) []api.Stmt {
	var out []api.Stmt
	labels := labelsOf(l)
	for i := range l {
		switch s := &l[i]; s.Op {
		case api.StLabel:
			words.Must(labels[s.Name].first == i, s.At, api.ErrLabel)
			out = append(out, api.Stmt{Op: s.Op, At: s.At, Name: s.Name})
		case api.StJump:
			// A label that is not there has the place 0, ahead of which nothing stands.
			words.Must(labels[s.Name].last > i, s.At, api.ErrLabel)
			out = append(out, c.jump(s))
		case api.StCall:
			out = append(out, c.instance(s)...)
		default:
			out = append(out, c.stmt(s))
		}
	}
	return out
}

// label is where a label stands in a list for the first time, and for the last time.
type label struct{ first, last int }

func labelsOf(l []api.Stmt) map[string]label {
	labels := map[string]label{}
	for i, s := range l {
		if s.Op != api.StLabel {
			continue
		}
		was, known := labels[s.Name]
		if !known {
			was.first = i
		}
		labels[s.Name] = label{was.first, i}
	}
	return labels
}

func (c *checker) jump(s *api.Stmt) api.Stmt {
	out := api.Stmt{Op: s.Op, At: s.At, Name: s.Name}
	if len(s.Exprs) > 0 {
		out.Exprs = []api.Expr{c.expr(&s.Exprs[0], api.KBool)}
	}
	return out
}

// stmt is a statement that stays one, typed.
func (c *checker) stmt(s *api.Stmt) api.Stmt {
	out := api.Stmt{Op: s.Op, At: s.At}
	switch s.Op {
	case api.StSet:
		words.Must(len(s.Exprs) == 2, s.At, api.ErrPlace)
		place, t := c.place(&s.Exprs[0])
		return set(s.At, place, t, c.expr(&s.Exprs[1], place.Kind))
	case api.StIf:
		out.Exprs = c.truth(s)
		out.Body = c.stmts(s.Body)
		out.Else = c.stmts(s.Else)
	case api.StCase:
		return c.choice(s)
	case api.StFor:
		return c.count(s)
	case api.StWhile:
		out.Num = s.Num
		out.Exprs = c.truth(s)
		out.Body = c.round(s.Body)
	case api.StRepeat:
		out.Num = s.Num
		out.Body = c.round(s.Body)
		out.Exprs = c.truth(s)
	case api.StExit:
		words.Must(c.loops > 0, s.At, api.ErrPlace)
	case api.StReturn, api.StEmpty:
	default:
		words.Fail(s.At, api.ErrPlace)
	}
	return out
}

// truth is the condition of a statement.
func (c *checker) truth(s *api.Stmt) []api.Expr {
	words.Must(len(s.Exprs) == 1, s.At, api.ErrPlace)
	return []api.Expr{c.expr(&s.Exprs[0], api.KBool)}
}

// round is the statements of a loop.
func (c *checker) round(l []api.Stmt) []api.Stmt {
	c.loops++
	out := c.stmts(l)
	c.loops--
	return out
}

// choice is a StCase.
func (c *checker) choice(s *api.Stmt) api.Stmt {
	words.Must(len(s.Exprs) == 1, s.At, api.ErrPlace)
	e := c.whole(&s.Exprs[0])
	out := api.Stmt{Op: s.Op, At: s.At, Exprs: []api.Expr{e}}
	for i := range s.Body {
		arm := &s.Body[i]
		words.Must(arm.Op == api.StArm, arm.At, api.ErrPlace)
		typed := api.Stmt{Op: arm.Op, At: arm.At}
		for _, r := range arm.Ranges {
			words.Must(r.Lo <= r.Hi && has(e.Kind, r.Lo) && has(e.Kind, r.Hi), arm.At, api.ErrFixed)
			typed.Ranges = append(typed.Ranges, r)
		}
		typed.Body = c.stmts(arm.Body)
		out.Body = append(out.Body, typed)
	}
	out.Else = c.stmts(s.Else)
	return out
}
