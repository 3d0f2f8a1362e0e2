package graphcore

import (
	"strings"

	"relay/api"
	"relay/trees"
)

// ladder turns rungs into statements, one behind the other.
type ladder struct {
	edge  func(api.Var) string // names whether an item has risen or fallen
	past  func(api.Var) string // names what an item was in the last scan
	power func(api.Var) string // names whether a rung's contacts are closed
	at    int                  // of the rung
	stmts []api.Stmt
}

func (a *ladder) set(place, e api.Expr) { a.stmts = append(a.stmts, trees.Set(a.at, place, e)) }

// rung puts the statements of its edges first, since series does so on its way.
func (a *ladder) rung(r api.Rung) {
	a.at = r.At
	closed := a.series(r.Contacts)
	power := a.power(trees.Var(api.VarTemp, api.KBool))
	a.set(trees.Name(r.At, power), closed)
	for _, c := range r.Coils {
		a.coil(c, trees.Name(r.At, power))
	}
}

func (a *ladder) series(contacts []api.Element) api.Expr {
	return row(api.OpAnd, a.at, contacts, a.contact)
}

func (a *ladder) contact(c api.Element) api.Expr {
	switch c.Op {
	case api.LdShut:
		return trees.Not(c.At, item(c))
	case api.LdRise, api.LdFall:
		return trees.Name(c.At, a.turned(c))
	case api.LdBranches:
		return row(api.OpOr, a.at, c.Branches, a.series)
	}
	return item(c)
}

// turned puts the statements of an edge, and tells the name of what they come to.
func (a *ladder) turned(c api.Element) string {
	edge := a.edge(trees.Var(api.VarTemp, api.KBool))
	past := a.past(trees.Var(api.VarLocal, api.KBool))
	now, was := item(c), trees.Name(c.At, past)
	if c.Op == api.LdRise {
		was = trees.Not(c.At, was)
	} else {
		now = trees.Not(c.At, now)
	}
	a.set(trees.Name(c.At, edge), trees.Both(api.OpAnd, c.At, now, was))
	a.set(trees.Name(c.At, past), item(c))
	return edge
}

// coil puts what a coil does with a rung's power.
func (a *ladder) coil(c api.Element, power api.Expr) {
	switch c.Op {
	case api.LdNot:
		a.set(item(c), trees.Not(c.At, power))
	case api.LdSet:
		a.latch(power, item(c), trees.Truth(a.at, true))
	case api.LdReset:
		// The document gives the rung's place to TRUE alone.
		a.latch(power, item(c), trees.Truth(c.At, false))
	default:
		a.set(item(c), power)
	}
}

func (a *ladder) latch(power, place, e api.Expr) {
	a.stmts = append(a.stmts, trees.If(a.at, power, trees.Set(a.at, place, e)))
}

// item is the variable that an element names, perhaps one of an instance.
func item(e api.Element) api.Expr {
	name, field, is := strings.Cut(e.Name, ".")
	if !is {
		return trees.Name(e.At, name)
	}
	return trees.Field(e.At, name, field)
}

// row is parts joined by an operation, from the left on; of none TRUE.
func row[T any](op, at int, parts []T, turn func(T) api.Expr) api.Expr {
	if len(parts) == 0 {
		return trees.Truth(at, true)
	}
	e := turn(parts[0])
	for _, part := range parts[1:] {
		e = trees.Both(op, at, e, turn(part))
	}
	return e
}
