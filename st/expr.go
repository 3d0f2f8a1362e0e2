package st

import (
	"relay/api"
	"relay/words"
)

// exprReader reads expressions, and counts how deep it is in what has begun and not ended.
type exprReader struct {
	words.Reader
	deep int
}

// begin goes on behind a word that makes it deeper.
func (r *exprReader) begin() {
	words.Must(r.deep < api.MaxDeep, r.Peek().At, api.ErrDeep)
	r.deep++
	r.Skip()
}

// finish goes on behind the word that ends what has begun last.
func (r *exprReader) finish(text string) {
	r.Want(text)
	r.deep--
}

func (r *exprReader) expr() api.Expr { return r.row(levelOr) }

// row is operands with operations of a level or of higher ones between.
func (r *exprReader) row(level int) api.Expr {
	e := r.unary()
	for {
		mark := r.Peek()
		op := rowOp(mark)
		if op == 0 || rows[op].level < level {
			return e
		}
		r.Skip()
		// What is of the same level waits, so that rows group from the left.
		e = api.Expr{Op: op, At: mark.At, Kids: []api.Expr{e, r.row(rows[op].level + 1)}}
	}
}

func (r *exprReader) unary() api.Expr {
	e := api.Expr{At: r.Peek().At}
	switch {
	case r.Sees("-"):
		e.Op = api.OpNeg
	case r.Sees("NOT"):
		e.Op = api.OpNot
	default:
		return r.prime()
	}
	r.begin()
	e.Kids = []api.Expr{r.unary()}
	r.deep--
	return e
}

func (r *exprReader) prime() api.Expr {
	if r.Sees("(") {
		r.begin()
		e := r.expr()
		r.finish(")")
		return e
	}
	t := r.Peek()
	if t.Kind == api.TokLit {
		r.Skip()
		return api.Expr{Op: api.ExLit, At: t.At, Value: t.Value}
	}
	if words.Is(r.Second(), "(") {
		return r.function()
	}
	return r.place()
}

// function is the call of a function.
func (r *exprReader) function() api.Expr {
	name := r.Name()
	l := r.arguments(false)
	return api.Expr{Op: api.ExCall, At: name.At, Name: name.Text, Kids: l.exprs, Names: l.names}
}

// place is what may be set: a variable, an element, or a field.
func (r *exprReader) place() api.Expr {
	name := r.Name()
	e := api.Expr{Op: api.ExName, At: name.At, Name: name.Text}
	switch {
	case r.Sees("["):
		r.begin()
		e.Op, e.Kids = api.ExIndex, []api.Expr{r.expr()}
		r.finish("]")
	case r.Takes("."):
		e.Op, e.Field = api.ExField, r.Name().Text
	}
	return e
}

// argList is what stands between a call's brackets: expressions and places, each with its formal name.
type argList struct {
	exprs    []api.Expr
	names    []string
	outs     []api.Expr
	outNames []string
}

// arguments reads brackets and what stands between; that may be set behind => in statements alone.
func (r *exprReader) arguments(maySet bool) argList {
	var l argList
	r.begin()
	if !r.Sees(")") {
		r.argument(&l, maySet)
		for r.Takes(",") {
			r.argument(&l, maySet)
		}
	}
	r.finish(")")
	return l
}

func (r *exprReader) argument(l *argList, maySet bool) {
	first, second := r.Peek(), r.Second()
	isName := first.Kind == api.TokName
	if maySet && isName && words.Is(second, "=>") {
		r.Name()
		r.Want("=>")
		l.outNames = append(l.outNames, first.Text)
		l.outs = append(l.outs, r.place())
		return
	}
	name := ""
	if isName && words.Is(second, ":=") {
		name = first.Text
		r.Name()
		r.Want(":=")
	}
	l.names = append(l.names, name)
	l.exprs = append(l.exprs, r.expr())
}
