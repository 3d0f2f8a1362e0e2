package layout

import (
	"relay/api"
	"relay/blocks"
	"relay/decl"
)

// plan is what a call knows of a project.
type plan struct {
	api.Project
	blocks   map[string]int // numbers of function blocks, by their names; a standard block's name is none of them
	programs map[string]int // numbers of programs, by their names
	sizes    map[int]sized  // of those POUs that were asked
	rings    rings
}

// sized is how many cells an instance of a POU has, or why it has none, and the place of the POU's variable through which that came.
type sized struct {
	cells   int
	why     api.Errno
	through int
}

func newPlan(p api.Project) *plan {
	a := &plan{Project: p, blocks: map[string]int{}, programs: map[string]int{}, sizes: map[int]sized{}}
	a.rings = newRings(a.held)
	for i, u := range p.Pous {
		_, isStandard := blocks.Kind(u.Name)
		switch {
		case u.What == api.PouBlock && !isStandard:
			note(a.blocks, u.Name, i)
		case u.What == api.PouProgram:
			note(a.programs, u.Name, i)
		}
	}
	return a
}

// note keeps the number of a name, unless it has one.
func note(numbers map[string]int, name string, number int) {
	if _, known := numbers[name]; !known {
		numbers[name] = number
	}
}

// variables is a POU's variables, of a function its result ahead.
func variables(u api.Pou) []api.Var {
	if u.What != api.PouFunction {
		return u.Vars
	}
	result := api.Var{Name: u.Name, Class: api.VarLocal, Type: u.Result}
	return append([]api.Var{result}, u.Vars...)
}

// isInstance tells whether a variable's cells are those of a block.
func isInstance(v api.Var) bool {
	return v.Type.Block != "" && v.Class != api.VarInOut && v.Class != api.VarExternal
}

// held is the function blocks of which a function block has instances.
func (a *plan) held(pou int) []int {
	var l []int
	for _, v := range a.Pous[pou].Vars {
		if inner, is := a.blocks[v.Type.Block]; is && isInstance(v) {
			l = append(l, inner)
		}
	}
	return l
}

// size is how many cells an instance of a POU has; each is measured once, since blocks may stand within others in great numbers.
func (a *plan) size(pou int) sized {
	if pou < 0 || pou >= len(a.Pous) {
		return sized{why: api.ErrArg}
	}
	s, known := a.sizes[pou]
	if !known {
		s = a.measured(a.Pous[pou])
		a.sizes[pou] = s
	}
	return s
}

func (a *plan) measured(u api.Pou) sized {
	all := 0
	for _, v := range variables(u) {
		n, why := a.cells(v)
		if why != api.OK {
			return sized{why: why, through: v.At}
		}
		all += n
	}
	if all > api.MaxCells {
		return sized{why: api.ErrFull}
	}
	return sized{cells: all}
}

// cells is how many cells a POU's variable has.
func (a *plan) cells(v api.Var) (int, api.Errno) {
	switch {
	case v.Class == api.VarInOut:
		return 1, api.OK
	case v.Class == api.VarExternal:
		return 0, api.OK
	case !isInstance(v):
		return decl.Cells(v.Type), api.OK
	}
	pou, is := a.blocks[v.Type.Block]
	switch {
	case !is:
		return standardSize(v.Type.Block)
	case a.rings.holdsItself(pou):
		return 0, api.ErrNest
	}
	s := a.size(pou)
	return s.cells, s.why
}

func standardSize(name string) (int, api.Errno) {
	kind, is := blocks.Kind(name)
	if !is {
		return 0, api.ErrBlock
	}
	return blocks.Size(kind), api.OK
}

// frames is the first cell of each function's frame, and the cell behind all of them; false, if a function has no size.
func (a *plan) frames() (map[int]int, int, bool) {
	first, at := map[int]int{}, 0
	for _, v := range a.Globals {
		at += decl.Cells(v.Type)
	}
	for i, u := range a.Pous {
		if u.What != api.PouFunction {
			continue
		}
		s := a.size(i)
		if s.why != api.OK {
			return nil, 0, false
		}
		first[i] = at
		at += s.cells
	}
	return first, at, true
}

// fault is why a project has no cells, and in which source; OK, if it has.
func (a *plan) fault() (int, api.Fault) {
	for i, u := range a.Pous {
		switch s := a.size(i); s.why {
		case api.OK:
		case api.ErrBlock:
			return u.Source, api.Fault{At: s.through, Why: s.why}
		default:
			return u.Source, api.Fault{At: u.At, Why: s.why}
		}
	}
	_, all, _ := a.frames()
	for _, r := range a.Runs {
		pou, is := a.programs[r.Pou]
		if !is {
			return a.Source, api.Fault{At: r.At, Why: api.ErrUnknown}
		}
		all += a.size(pou).cells
	}
	if all > api.MaxCells {
		return a.Source, api.Fault{Why: api.ErrFull}
	}
	return 0, api.Fault{}
}
