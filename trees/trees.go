// Package trees makes parts of the one tree, for the layers that turn other languages into it. What is handed in becomes part of what is answered, so that a part which is needed twice is copied once.
package trees

import (
	"slices"

	"relay/api"
	"relay/value"
)

// Name is a variable's name.
func Name(at int, name string) api.Expr { return api.Expr{Op: api.ExName, At: at, Name: name} }

// Field is a variable of an instance.
func Field(at int, name, field string) api.Expr {
	return api.Expr{Op: api.ExField, At: at, Name: name, Field: field}
}

// Truth is the literal TRUE or FALSE.
func Truth(at int, is bool) api.Expr {
	return api.Expr{Op: api.ExLit, At: at, Value: value.Bool(is)}
}

// Not is NOT of an expression.
func Not(at int, e api.Expr) api.Expr {
	return api.Expr{Op: api.OpNot, At: at, Kids: []api.Expr{e}}
}

// Both is an operation of two expressions.
func Both(op, at int, left, right api.Expr) api.Expr {
	return api.Expr{Op: op, At: at, Kids: []api.Expr{left, right}}
}

// Set is an assignment.
func Set(at int, place, e api.Expr) api.Stmt {
	return api.Stmt{Op: api.StSet, At: at, Exprs: []api.Expr{place, e}}
}

// If is statements that are done if an expression is true.
func If(at int, is api.Expr, body ...api.Stmt) api.Stmt {
	return api.Stmt{Op: api.StIf, At: at, Exprs: []api.Expr{is}, Body: body}
}

// Changed is an expression in new memory, each part of it as change makes it of a copy, the inner ones first.
func Changed(e api.Expr, change func(api.Expr) api.Expr) api.Expr {
	e.Kids = AllChanged(e.Kids, change)
	e.Names = slices.Clone(e.Names)
	return change(e)
}

// AllChanged is expressions, each of them changed.
func AllChanged(l []api.Expr, change func(api.Expr) api.Expr) []api.Expr {
	var out []api.Expr
	for _, e := range l {
		out = append(out, Changed(e, change))
	}
	return out
}

// StmtsChanged is statements in new memory, each expression in them changed.
func StmtsChanged(l []api.Stmt, change func(api.Expr) api.Expr) []api.Stmt {
	var out []api.Stmt
	for _, s := range l {
		s.Exprs, s.Outs = AllChanged(s.Exprs, change), AllChanged(s.Outs, change)
		s.Names, s.OutNames = slices.Clone(s.Names), slices.Clone(s.OutNames)
		s.Ranges = slices.Clone(s.Ranges)
		s.Body, s.Else = StmtsChanged(s.Body, change), StmtsChanged(s.Else, change)
		out = append(out, s)
	}
	return out
}

// Copy is an expression in new memory.
func Copy(e api.Expr) api.Expr { return Changed(e, as) }

// Copies is expressions in new memory.
func Copies(l []api.Expr) []api.Expr { return AllChanged(l, as) }

func as(e api.Expr) api.Expr { return e }
