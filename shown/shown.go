// Package shown writes trees as texts, for tests of those layers that make trees. Unlike the texts of st, these show hidden names, labels, jumps and places, and each field that has no business in a part, so that two trees with one text are one.
package shown

import (
	"strconv"
	"strings"

	"relay/api"
	"relay/value"
)

// Stmts is statements' text, without places.
func Stmts(l []api.Stmt) string { return writer{}.stmts(l) }

// Placed is statements' text with the places of all parts: "5>" of a statement, "5:" of an expression.
func Placed(l []api.Stmt) string { return writer{places: true}.stmts(l) }

// Expr is an expression's text, without places.
func Expr(e api.Expr) string { return writer{}.expr(e) }

// PlacedExpr is an expression's text with the places of all parts.
func PlacedExpr(e api.Expr) string { return writer{places: true}.expr(e) }

// writer writes trees, perhaps with their places.
type writer struct{ places bool }

func (w writer) at(at int, mark string) string {
	if !w.places {
		return ""
	}
	return strconv.Itoa(at) + mark
}

func (w writer) stmts(l []api.Stmt) string {
	texts := make([]string, len(l))
	for i, s := range l {
		texts[i] = w.at(s.At, "> ") + w.stmt(s) + oddStmt(s)
	}
	return strings.Join(texts, " ")
}

func (w writer) stmt(s api.Stmt) string {
	switch {
	case s.Op == api.StSet && len(s.Exprs) == 2:
		return w.expr(s.Exprs[0]) + " := " + w.expr(s.Exprs[1]) + ";"
	case s.Op == api.StIf && len(s.Exprs) == 1:
		return "IF " + w.expr(s.Exprs[0]) + " THEN " + w.stmts(s.Body) + w.others(s.Else) + " END_IF;"
	case s.Op == api.StCall:
		return s.Name + "(" + w.args(s.Names, s.Exprs, " := ") + "|" + w.args(s.OutNames, s.Outs, " => ") + ");"
	case s.Op == api.StLabel && len(s.Exprs) == 0:
		return s.Name + ":"
	case s.Op == api.StJump && len(s.Exprs) == 0:
		return "JMP " + s.Name + ";"
	case s.Op == api.StJump && len(s.Exprs) == 1:
		return "JMP " + s.Name + " IF " + w.expr(s.Exprs[0]) + ";"
	case s.Op == api.StReturn && len(s.Exprs) == 0:
		return "RETURN;"
	case s.Op == api.StExit && len(s.Exprs) == 0:
		return "EXIT;"
	case s.Op == api.StEmpty && len(s.Exprs) == 0:
		return ";"
	}
	return w.choice(s)
}

// choice is the text of a statement that goes by numbers or in rounds, or of one that is none.
func (w writer) choice(s api.Stmt) string {
	bound := "{" + strconv.Itoa(s.Num) + "} "
	switch {
	case s.Op == api.StCase && len(s.Exprs) == 1:
		return "CASE " + w.expr(s.Exprs[0]) + " OF " + w.stmts(s.Body) + w.others(s.Else) + " END_CASE;"
	case s.Op == api.StArm && len(s.Exprs) == 0:
		return ranges(s.Ranges) + ": " + w.stmts(s.Body)
	case s.Op == api.StFor:
		return "FOR " + s.Name + " := " + w.args(make([]string, len(s.Exprs)), s.Exprs, "") + " DO " + w.stmts(s.Body) + " END_FOR;"
	case s.Op == api.StWhile && len(s.Exprs) == 1:
		return bound + "WHILE " + w.expr(s.Exprs[0]) + " DO " + w.stmts(s.Body) + " END_WHILE;"
	case s.Op == api.StRepeat && len(s.Exprs) == 1:
		return bound + "REPEAT " + w.stmts(s.Body) + " UNTIL " + w.expr(s.Exprs[0]) + " END_REPEAT;"
	}
	return "?" + strconv.Itoa(s.Op) + "(" + w.args(nil, s.Exprs, "") + ");"
}

// others is what is done else, if there is something.
func (w writer) others(l []api.Stmt) string {
	if len(l) == 0 {
		return ""
	}
	return " ELSE " + w.stmts(l)
}

func ranges(l []api.Range) string {
	texts := make([]string, len(l))
	for i, r := range l {
		texts[i] = strconv.Itoa(r.Lo) + ".." + strconv.Itoa(r.Hi)
	}
	return strings.Join(texts, ", ")
}

// oddStmt tells the fields that a statement of its Op does not have.
func oddStmt(s api.Stmt) string {
	call := s.Op == api.StCall
	named := call || s.Op == api.StLabel || s.Op == api.StJump || s.Op == api.StFor
	bounded := s.Op == api.StWhile || s.Op == api.StRepeat
	parted := s.Op == api.StIf || s.Op == api.StCase
	around := parted || bounded || s.Op == api.StArm || s.Op == api.StFor
	return odd("Name", s.Name != "" && !named) + odd("Num", s.Num != 0 && !bounded) + odd("Names", len(s.Names) > 0 && !call) +
		odd("Outs", len(s.Outs)+len(s.OutNames) > 0 && !call) + odd("Ranges", len(s.Ranges) > 0 && s.Op != api.StArm) +
		odd("Body", len(s.Body) > 0 && !around) + odd("Else", len(s.Else) > 0 && !parted) +
		odd("Kind", s.Kind != 0) + odd("Area", s.Area != 0) + odd("Ref", s.Ref != 0)
}

func odd(field string, is bool) string {
	if !is {
		return ""
	}
	return "!" + field
}

// args is expressions with their formal names; names without an expression, and expressions without a name, are shown too.
func (w writer) args(names []string, l []api.Expr, mark string) string {
	texts := make([]string, max(len(names), len(l)))
	for i := range texts {
		switch {
		case i >= len(names):
			texts[i] = "?" + w.expr(l[i])
		case i >= len(l):
			texts[i] = names[i] + mark
		case names[i] == "":
			texts[i] = w.expr(l[i])
		default:
			texts[i] = names[i] + mark + w.expr(l[i])
		}
	}
	return strings.Join(texts, ", ")
}

func (w writer) expr(e api.Expr) string {
	at := w.at(e.At, ":")
	switch kids := e.Kids; {
	case e.Op >= api.OpAdd && e.Op <= api.OpGe && len(kids) == 2:
		return "(" + w.expr(kids[0]) + " " + at + sign(e.Op) + " " + w.expr(kids[1]) + ")" + oddExpr(e)
	case e.Op == api.OpNeg && len(kids) == 1:
		return "(" + at + "-" + w.expr(kids[0]) + ")" + oddExpr(e)
	case e.Op == api.OpNot && len(kids) == 1:
		return "(" + at + "NOT " + w.expr(kids[0]) + ")" + oddExpr(e)
	case e.Op == api.ExLit && len(kids) == 0:
		return at + literal(e.Value) + oddExpr(e)
	case e.Op == api.ExName && len(kids) == 0:
		return at + e.Name + oddExpr(e)
	case e.Op == api.ExField && len(kids) == 0:
		return at + e.Name + "." + e.Field + oddExpr(e)
	case e.Op == api.ExIndex && len(kids) == 1:
		return at + e.Name + "[" + w.expr(kids[0]) + "]" + oddExpr(e)
	case e.Op == api.ExCall:
		return at + e.Name + "(" + w.args(e.Names, kids, " := ") + ")" + oddExpr(e)
	}
	return at + "?" + strconv.Itoa(e.Op) + "(" + w.args(nil, e.Kids, "") + ")" + oddExpr(e)
}

// oddExpr tells the fields that an expression of its Op does not have.
func oddExpr(e api.Expr) string {
	named := e.Op == api.ExName || e.Op == api.ExField || e.Op == api.ExIndex || e.Op == api.ExCall
	return odd("Name", e.Name != "" && !named) + odd("Field", e.Field != "" && e.Op != api.ExField) +
		odd("Value", e.Value != api.Value{} && e.Op != api.ExLit) + odd("Names", len(e.Names) > 0 && e.Op != api.ExCall) +
		odd("Kind", e.Kind != 0) + odd("Area", e.Area != 0) + odd("Ref", e.Ref != 0) + odd("From", e.From != 0) + odd("To", e.To != 0)
}

func sign(op int) string {
	l := [...]string{"", "+", "-", "*", "/", "MOD", "AND", "OR", "XOR", "=", "<>", "<", "<=", ">", ">="}
	return l[op]
}

func literal(v api.Value) string {
	switch {
	case v == value.Bool(true):
		return "TRUE"
	case v == value.Bool(false):
		return "FALSE"
	case v.Kind == api.KNone && v.Text == "":
		return strconv.FormatUint(v.Bits, 10)
	}
	return value.Word(v.Kind) + "#" + strconv.FormatUint(v.Bits, 10) + "'" + v.Text + "'"
}
