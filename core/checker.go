package core

import (
	"slices"

	"relay/api"
	"relay/blocks"
	"relay/decl"
	"relay/layout"
	"relay/value"
	"relay/words"
)

// checker types the POUs of a project, one behind the other.
type checker struct {
	api.Project
	pou     int              // the one that is typed
	known   map[string]thing // what its names mean, those that were asked
	fors    []string         // the variables of the StFors around
	loops   int              // how many loops stand around
	formals map[int][]formal // of what is called, by its number
	bases   map[int]int      // first cells of functions' frames
	calls   map[int][]int    // which POUs each one calls
}

func newChecker(p api.Project) *checker {
	return &checker{Project: p, formals: map[int][]formal{}, bases: map[int]int{}, calls: map[int][]int{}}
}

// enter turns to a POU.
func (c *checker) enter(pou int) {
	c.pou, c.known = pou, map[string]thing{}
}

// code is the code of the POU with a body.
func (c *checker) code(body []api.Stmt) api.Code {
	u := c.Pous[c.pou]
	c.variables(u)
	code := api.Code{Name: u.Name, What: u.What, Base: -1}
	code.Cells, _ = layout.Size(c.Project, c.pou)
	if u.What == api.PouFunction {
		code.Base = c.base(c.pou)
	}
	code.Body = append(c.starts(u), c.stmts(body)...)
	return code
}

// base is the first cell of a function's frame.
func (c *checker) base(pou int) int {
	at, known := c.bases[pou]
	if !known {
		at, _ = layout.Base(c.Project, pou)
		c.bases[pou] = at
	}
	return at
}

// variables refuses what a POU's variables can't be.
func (c *checker) variables(u api.Pou) {
	isFunction := u.What == api.PouFunction
	if isFunction {
		// The result stands ahead of a function's variables, and has no place of its own.
		words.Must(u.Result.Block == "", 0, api.ErrPlace)
	}
	for _, v := range u.Vars {
		isInstance := v.Type.Block != ""
		if v.Class == api.VarExternal {
			c.external(v)
		}
		if isInstance {
			_, is := c.block(v.Type.Block)
			words.Must(is && !isFunction, v.At, api.ErrPlace)
		}
		words.Must(v.Class != api.VarInOut || !isInstance && !v.Type.Array, v.At, api.ErrMust)
	}
}

// external refuses a VarExternal whose global variable is not there, or is another one.
func (c *checker) external(v api.Var) {
	_, global, is := layout.Global(c.Project, v.Name)
	words.Must(is, v.At, api.ErrUnknown)
	words.Must(global.Type == v.Type, v.At, api.ErrMust)
}

// block is the number of the function block of a name: the POU's, or below 0 that of a standard block.
func (c *checker) block(name string) (int, bool) {
	if kind, is := blocks.Kind(name); is {
		return -kind, true
	}
	pou, is := layout.Pou(c.Project, name)
	return pou, is && c.Pous[pou].What == api.PouBlock
}

// starts is statements that give those variables their initial values that keep nothing from run to run.
func (c *checker) starts(u api.Pou) []api.Stmt {
	var l []api.Stmt
	isFunction := u.What == api.PouFunction
	if isFunction {
		l = append(l, c.start(api.Var{Name: u.Name, Type: u.Result})...)
	}
	for _, v := range u.Vars {
		if v.Class == api.VarTemp || isFunction && v.Class == api.VarLocal {
			l = append(l, c.start(v)...)
		}
	}
	return l
}

// start is statements that give a variable its initial values, element by element.
func (c *checker) start(v api.Var) []api.Stmt {
	var l []api.Stmt
	first, _, _ := layout.Find(c.Project, c.pou, v.Name)
	for k := range decl.Cells(v.Type) {
		place := api.Expr{Op: api.ExName, Name: v.Name, Kind: v.Type.Kind, Area: api.AreaThis, Ref: first + k}
		l = append(l, set(0, place, v.Type, literal(0, initial(v, k))))
	}
	return l
}

// initial is the initial value of a variable, or of an array's element of a number.
func initial(v api.Var, k int) api.Value {
	t := v.Type
	if k < len(v.Init) {
		return v.Init[k]
	}
	if t.Sub && (t.Lo > 0 || t.Hi < 0) {
		low, _ := value.Int(t.Kind, t.Lo)
		return low
	}
	return value.Zero(t.Kind)
}

// called notes that the POU calls one.
func (c *checker) called(pou int) {
	if l := c.calls[c.pou]; !slices.Contains(l, pou) {
		c.calls[c.pou] = append(l, pou)
	}
}

// refuseRings refuses POUs that come to call themselves.
func (c *checker) refuseRings() {
	for i, u := range c.Pous {
		c.pou = i
		words.Must(!c.comesBack(i), u.At, api.ErrCalls)
	}
}

// comesBack tells whether a POU comes to call itself, perhaps over others.
func (c *checker) comesBack(pou int) bool {
	come := map[int]struct{}{}
	open := slices.Clone(c.calls[pou])
	for len(open) > 0 {
		next := open[len(open)-1]
		open = open[:len(open)-1]
		if next == pou {
			return true
		}
		if _, is := come[next]; !is {
			come[next] = struct{}{}
			open = append(open, c.calls[next]...)
		}
	}
	return false
}
