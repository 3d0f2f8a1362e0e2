package core

import (
	"relay/api"
	"relay/words"
)

// instance is a StCall: its arguments are set, the instance is called, and its outputs are set where they go.
func (c *checker) instance(s *api.Stmt) []api.Stmt {
	t := c.meant(s.Name, s.At)
	number, is := c.block(t.of.Block)
	words.Must(is, s.At, api.ErrPlace)
	l := c.inputs(s, t, number)
	l = append(l, api.Stmt{Op: s.Op, At: s.At, Name: s.Name, Num: number, Area: t.area, Ref: t.ref})
	if number >= 0 {
		c.called(number)
	}
	for i := range s.Outs {
		l = append(l, c.output(s, i, t, number))
	}
	return l
}

// inputs is statements that set the arguments of a call of an instance. A VarIn without one keeps what it has.
func (c *checker) inputs(s *api.Stmt, t thing, number int) []api.Stmt {
	var l []api.Stmt
	params := c.paramsOf(number)
	for i, arg := range arguments(s.At, params, s.Exprs, s.Names) {
		p := params[i]
		if arg == nil {
			continue
		}
		e := c.argument(arg, p)
		place, of := inner(s.At, s.Name, t, p), p.Type
		if p.Class == api.VarInOut {
			place.Kind, of = api.KRef, api.Type{}
		}
		l = append(l, set(s.At, place, of, e))
	}
	return l
}

// output is a statement that sets the place of an output of a call of an instance.
func (c *checker) output(s *api.Stmt, i int, t thing, number int) api.Stmt {
	f, is := c.formalOf(number, nameOf(s.OutNames, i))
	words.Must(is && f.Class == api.VarOut, s.At, api.ErrUnknown)
	place, of := c.place(&s.Outs[i])
	e := inner(s.At, s.Name, t, f)
	if e.Kind != place.Kind {
		words.Must(Widens(e.Kind, place.Kind), s.Outs[i].At, api.ErrMust)
		e = converted(e, place.Kind)
	}
	return set(s.At, place, of, e)
}
