package core

import (
	"slices"

	"relay/api"
	"relay/blocks"
	"relay/layout"
	"relay/words"
)

// thing is what a name means in a POU: a variable, where it lies, or a name of a value, which lies nowhere (area 0).
type thing struct {
	class     int
	of        api.Type
	isFixed   bool
	area, ref int
	value     api.Value
}

func (t thing) isInstance() bool { return t.of.Block != "" }

// isSimple tells whether a thing is a variable of one value, or a name of one.
func (t thing) isSimple() bool { return !t.isInstance() && !t.of.Array }

// hasElements tells whether a thing is an array of values.
func (t thing) hasElements() bool { return t.of.Array && !t.isInstance() }

// meant is what a name, which must mean something, means in the POU.
func (c *checker) meant(name string, at int) thing {
	t, known := c.known[name]
	if !known {
		t, known = c.lookUp(name)
		words.Must(known, at, api.ErrUnknown)
		c.known[name] = t
	}
	return t
}

func (c *checker) lookUp(name string) (thing, bool) {
	ahead, v, is := layout.Find(c.Project, c.pou, name)
	t := thing{class: v.Class, of: v.Type, isFixed: v.Fixed, area: api.AreaThis, ref: ahead}
	switch {
	case !is:
		return c.constant(name)
	case v.Class == api.VarInOut:
		t.area = api.AreaRef
	case v.Class == api.VarExternal:
		cell, global, is := layout.Global(c.Project, name)
		t.area, t.ref, t.isFixed = api.AreaGlobal, cell, v.Fixed || global.Fixed
		return t, is
	}
	return t, true
}

// constant is what a name of a value means.
func (c *checker) constant(name string) (thing, bool) {
	i := slices.IndexFunc(c.Consts, func(k api.Const) bool { return k.Name == name })
	if i < 0 {
		return thing{}, false
	}
	v := c.Consts[i].Value
	return thing{of: api.Type{Kind: v.Kind}, isFixed: true, value: v}, true
}

// mayAssign tells whether what a name means may be assigned.
func (c *checker) mayAssign(name string, t thing) bool {
	return t.class != api.VarIn && !t.isFixed && !slices.Contains(c.fors, name)
}

// formal is a variable of what is called: a parameter or an output, and how many cells a frame or an instance has ahead of it.
type formal struct {
	api.Var
	ahead int
}

func (f formal) isParam() bool { return f.Class == api.VarIn || f.Class == api.VarInOut }

// isRead tells whether a formal can be asked of an instance.
func (f formal) isRead() bool { return f.Class == api.VarIn || f.Class == api.VarOut }

// formalsOf is the formals of a POU, or of a standard block (below 0), in their order.
func (c *checker) formalsOf(number int) []formal {
	l, known := c.formals[number]
	if known {
		return l
	}
	if number < 0 {
		// Each variable of a standard block is one cell.
		for i, v := range blocks.Vars(-number) {
			l = append(l, formal{v, i})
		}
	} else {
		for _, v := range c.Pous[number].Vars {
			if f := (formal{Var: v}); f.isParam() || f.isRead() {
				f.ahead, _, _ = layout.Find(c.Project, number, v.Name)
				l = append(l, f)
			}
		}
	}
	c.formals[number] = l
	return l
}

// paramsOf is the parameters of a POU, or of a standard block.
func (c *checker) paramsOf(number int) []formal {
	var l []formal
	for _, f := range c.formalsOf(number) {
		if f.isParam() {
			l = append(l, f)
		}
	}
	return l
}

// formalOf is the formal of a name of a block.
func (c *checker) formalOf(number int, name string) (formal, bool) {
	l := c.formalsOf(number)
	i := slices.IndexFunc(l, func(f formal) bool { return f.Name == name })
	if i < 0 {
		return formal{}, false
	}
	return l[i], true
}
