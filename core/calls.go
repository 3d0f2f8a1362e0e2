package core

import (
	"errors"
	"slices"

	"relay/api"
	"relay/layout"
	"relay/stdlib"
	"relay/words"
)

// call is a call of a function: of the project, or else a standard one.
func (c *checker) call(e *api.Expr) api.Expr {
	if pou, is := layout.Pou(c.Project, e.Name); is {
		return c.function(e, pou)
	}
	return c.standard(e)
}

// bound is the argument that each formal name has; nil, if it has none.
func bound(at int, formals []string, args []api.Expr, names []string) []*api.Expr {
	named := 0
	for i := range args {
		if nameOf(names, i) != "" {
			named++
		}
	}
	words.Must(named == 0 || named == len(args), at, api.ErrCount)
	byPlace := named == 0 && len(args) > 0
	words.Must(!byPlace || len(args) == len(formals), at, api.ErrCount)
	l := make([]*api.Expr, len(formals))
	for i := range args {
		k := i
		if !byPlace {
			k = slices.Index(formals, nameOf(names, i))
		}
		words.Must(k >= 0, at, api.ErrUnknown)
		words.Must(l[k] == nil, at, api.ErrCount)
		l[k] = &args[i]
	}
	return l
}

// nameOf is the name of a number; empty, if there is none.
func nameOf(names []string, i int) string {
	if i >= len(names) {
		return ""
	}
	return names[i]
}

// arguments is the argument that each parameter has; nil, if it may do without and has none.
func arguments(at int, params []formal, args []api.Expr, names []string) []*api.Expr {
	var formals []string
	for _, p := range params {
		formals = append(formals, p.Name)
	}
	l := bound(at, formals, args, names)
	for i, p := range params {
		words.Must(p.Class != api.VarInOut || l[i] != nil, at, api.ErrCount)
	}
	return l
}

// argument is what a parameter gets.
func (c *checker) argument(e *api.Expr, p formal) api.Expr {
	if p.Class == api.VarInOut {
		return c.reference(e, p.Type)
	}
	return c.expr(e, p.Type.Kind)
}

// reference is a reference to a place that must be just of a type.
func (c *checker) reference(e *api.Expr, t api.Type) api.Expr {
	place, of := c.place(e)
	words.Must(oneOf(of) == oneOf(t), e.At, api.ErrMust)
	return api.Expr{Op: api.ExRef, Kids: []api.Expr{place}, Kind: api.KRef}
}

// oneOf is the type of one value of a type.
func oneOf(t api.Type) api.Type {
	return api.Type{Kind: t.Kind, Sub: t.Sub, Lo: t.Lo, Hi: t.Hi, Max: t.Max}
}

// function is a call of a function of the project.
func (c *checker) function(e *api.Expr, pou int) api.Expr {
	u := &c.Pous[pou]
	words.Must(u.What == api.PouFunction && u.Result.Kind != api.KNone, e.At, api.ErrPlace)
	params := c.paramsOf(pou)
	call := api.Expr{Op: api.ExCall, At: e.At, Name: e.Name, Kind: u.Result.Kind, Area: api.AreaGlobal, Ref: pou, From: c.base(pou)}
	for i, arg := range arguments(e.At, params, e.Kids, e.Names) {
		p := params[i]
		if arg == nil {
			call.Kids = append(call.Kids, param(p, literal(e.At, initial(p.Var, 0))))
		} else {
			call.Kids = append(call.Kids, param(p, c.argument(arg, p)))
		}
	}
	c.called(pou)
	return call
}

// param is what a parameter of a function gets, and the bounds that are looked at ahead of the call.
func param(p formal, arg api.Expr) api.Expr {
	e := api.Expr{Op: api.ExParam, Kids: []api.Expr{arg}, Kind: arg.Kind, Ref: p.ahead}
	switch t := p.Type; {
	case p.Class == api.VarInOut:
		// What is referred to has the same bounds.
	case t.Sub:
		e.Area, e.From, e.To = 1, t.Lo, t.Hi
	case t.Kind == api.KString:
		e.Area, e.To = 2, longest(t)
	}
	return e
}

// standard is a call of a standard function.
func (c *checker) standard(e *api.Expr) api.Expr {
	_, _, why := stdlib.Find(e.Name, nil)
	words.Must(!errors.Is(why, api.ErrFunction), e.At, api.ErrFunction)
	formals := stdlib.Params(e.Name, len(e.Kids))
	words.Must(len(formals) > 0, e.At, api.ErrCount)
	kids := c.standardArguments(bound(e.At, formals, e.Kids, e.Names))
	fn, gives, why := stdlib.Find(e.Name, kindsOf(kids))
	if errors.Is(why, api.ErrTypes) {
		kids = widened(kids)
		fn, gives, why = stdlib.Find(e.Name, kindsOf(kids))
	}
	words.Must(!errors.Is(why, api.ErrTypes), e.At, api.ErrTypes)
	return api.Expr{Op: api.ExCall, At: e.At, Name: e.Name, Kids: kids, Kind: gives, Ref: fn}
}

// standardArguments is arguments, typed; numbers of no kind go by the others.
func (c *checker) standardArguments(args []*api.Expr) []api.Expr {
	kids := make([]api.Expr, len(args))
	for i, arg := range args {
		if !isFree(arg) {
			kids[i] = c.expr(arg, api.KNone)
		}
	}
	want := api.KNone
	if i := slices.IndexFunc(kids, func(e api.Expr) bool { return isCounted(e.Kind) }); i >= 0 {
		want = kids[i].Kind
	}
	for i, arg := range args {
		if isFree(arg) {
			kids[i] = c.expr(arg, want)
		}
	}
	return kids
}

func kindsOf(l []api.Expr) []api.Kind {
	var kinds []api.Kind
	for _, e := range l {
		kinds = append(kinds, e.Kind)
	}
	return kinds
}

// widened is arguments, converted to the first kind of theirs that all of them are taken for, if there is one.
func widened(l []api.Expr) []api.Expr {
	kinds := kindsOf(l)
	for _, to := range kinds {
		if slices.ContainsFunc(kinds, func(k api.Kind) bool { return k != to && !Widens(k, to) }) {
			continue
		}
		for i, e := range l {
			if e.Kind != to {
				l[i] = converted(e, to)
			}
		}
		break
	}
	return l
}
