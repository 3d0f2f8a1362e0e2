package layout

import (
	"relay/api"
	"relay/blocks"
	"relay/decl"
	"relay/lex"
	"relay/value"
)

// keeping is which cells of a thing are kept over a warm start.
type keeping int

const (
	never    keeping = iota // none
	declared                // those of variables that say so
	always                  // all but those that never are
)

// of is which cells of a variable are kept, within a thing of which these are.
func (k keeping) of(v api.Var) keeping {
	switch {
	case k == never || v.Class == api.VarTemp || v.Class == api.VarInOut:
		return never
	case v.Keep:
		return always
	}
	return k
}

// laid is cells, one behind the other.
type laid struct {
	plan *plan
	list []api.Cell
}

func (l *laid) put(c api.Cell) { l.list = append(l.list, c) }

// global puts a global variable's cells.
func (l *laid) global(v api.Var) {
	_, dir, _ := lex.IsAddr(v.Addr)
	for k := range decl.Cells(v.Type) {
		c := cell(v, k)
		c.Keep, c.Dir, c.Addr = v.Keep, dir, v.Addr
		l.put(c)
	}
}

// instance puts the cells of a POU's variables.
func (l *laid) instance(pou int, kept keeping) {
	// Instances without cells may stand within one another in numbers beyond all counting.
	if l.plan.size(pou).cells == 0 {
		return
	}
	for _, v := range variables(l.plan.Pous[pou]) {
		l.variable(v, kept.of(v))
	}
}

// variable puts the cells of a POU's variable.
func (l *laid) variable(v api.Var, kept keeping) {
	switch {
	case v.Class == api.VarInOut:
		l.put(api.Cell{Kind: api.KRef, Init: api.Value{Kind: api.KRef}})
	case v.Class == api.VarExternal:
	case isInstance(v):
		l.block(v.Type.Block, kept)
	default:
		for k := range decl.Cells(v.Type) {
			c := cell(v, k)
			c.Keep = kept == always
			l.put(c)
		}
	}
}

// block puts the cells of an instance of a block.
func (l *laid) block(name string, kept keeping) {
	if pou, is := l.plan.blocks[name]; is {
		l.instance(pou, kept)
		return
	}
	kind, _ := blocks.Kind(name)
	for _, v := range blocks.Start(kind) {
		l.put(api.Cell{Kind: v.Kind, Init: v, Keep: kept == always})
	}
}

// cell is the cell of an elementary variable, or of an array's element of a number.
func cell(v api.Var, k int) api.Cell {
	t := v.Type
	c := api.Cell{Kind: t.Kind, Sub: t.Sub, Lo: t.Lo, Hi: t.Hi, Max: t.Max}
	switch {
	case k < len(v.Init):
		c.Init = v.Init[k]
	case t.Sub && (t.Lo > 0 || t.Hi < 0):
		c.Init, _ = value.Int(t.Kind, t.Lo)
	default:
		c.Init = value.Zero(t.Kind)
	}
	return c
}
