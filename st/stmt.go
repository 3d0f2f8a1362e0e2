package st

import (
	"strconv"
	"strings"

	"relay/api"
	"relay/words"
)

// Labels are numbers up to this one, on both sides of 0.
const maxLabel = 1 << 31

// stmtReader reads statements.
type stmtReader struct{ exprReader }

// stmts is as many statements as stand one behind the other.
func (r *stmtReader) stmts() []api.Stmt {
	var l []api.Stmt
	for {
		s, is := r.stmt()
		if !is {
			return l
		}
		l = append(l, s)
	}
}

// stmt is the statement that begins here; false, if none does.
func (r *stmtReader) stmt() (api.Stmt, bool) {
	first := r.Peek()
	s := api.Stmt{At: first.At}
	switch {
	case first.Kind == api.TokName && words.Is(r.Second(), "("):
		r.instance(&s)
	case first.Kind == api.TokName:
		r.set(&s)
	case first.Kind == api.TokPragma:
		r.loop(&s)
	case r.Sees("WHILE"), r.Sees("REPEAT"):
		words.Fail(first.At, api.ErrBound)
	case r.Sees("IF"):
		r.branches(&s)
	case r.Sees("CASE"):
		r.cases(&s)
	case r.Sees("FOR"):
		r.count(&s)
	case r.Takes("EXIT"):
		s.Op = api.StExit
	case r.Takes("RETURN"):
		s.Op = api.StReturn
	case r.Sees(";"):
		s.Op = api.StEmpty
	default:
		return api.Stmt{}, false
	}
	r.Want(";")
	return s, true
}

func (r *stmtReader) set(s *api.Stmt) {
	s.Op = api.StSet
	place := r.place()
	r.Want(":=")
	s.Exprs = []api.Expr{place, r.expr()}
}

// instance reads the call of an instance.
func (r *stmtReader) instance(s *api.Stmt) {
	s.Op, s.Name = api.StCall, r.Name().Text
	l := r.arguments(true)
	s.Exprs, s.Names, s.Outs, s.OutNames = l.exprs, l.names, l.outs, l.outNames
}

// branches reads from IF or ELSIF on up to END_IF, which ends all of them.
func (r *stmtReader) branches(s *api.Stmt) {
	s.Op = api.StIf
	r.begin()
	s.Exprs = []api.Expr{r.expr()}
	r.Want("THEN")
	s.Body = r.stmts()
	if r.Sees("ELSIF") {
		other := api.Stmt{At: r.Peek().At}
		r.branches(&other)
		s.Else = []api.Stmt{other}
		r.deep--
		return
	}
	if r.Takes("ELSE") {
		s.Else = r.stmts()
	}
	r.finish("END_IF")
}

func (r *stmtReader) cases(s *api.Stmt) {
	s.Op = api.StCase
	r.begin()
	s.Exprs = []api.Expr{r.expr()}
	r.Want("OF")
	for r.Peek().Kind == api.TokLit || r.Sees("-") {
		s.Body = append(s.Body, r.arm())
	}
	if r.Takes("ELSE") {
		s.Else = r.stmts()
	}
	r.finish("END_CASE")
}

func (r *stmtReader) arm() api.Stmt {
	s := api.Stmt{Op: api.StArm, At: r.Peek().At}
	s.Ranges = append(s.Ranges, r.label())
	for r.Takes(",") {
		s.Ranges = append(s.Ranges, r.label())
	}
	r.Want(":")
	s.Body = r.stmts()
	return s
}

func (r *stmtReader) label() api.Range {
	low := r.number()
	if r.Takes("..") {
		return api.Range{Lo: low, Hi: r.number()}
	}
	return api.Range{Lo: low, Hi: low}
}

// number is a label's; its - is no operation, and makes nothing deeper.
func (r *stmtReader) number() int {
	below := r.Takes("-")
	t := r.Token(api.TokLit)
	words.Must(t.Value.Kind == api.KNone && t.Value.Bits <= maxLabel, t.At, api.ErrToken)
	if below {
		return -int(t.Value.Bits)
	}
	return int(t.Value.Bits)
}

func (r *stmtReader) count(s *api.Stmt) {
	s.Op = api.StFor
	r.begin()
	s.Name = r.Name().Text
	r.Want(":=")
	from := r.expr()
	r.Want("TO")
	s.Exprs = []api.Expr{from, r.expr()}
	if r.Takes("BY") {
		s.Exprs = append(s.Exprs, r.expr())
	}
	r.Want("DO")
	s.Body = r.stmts()
	r.finish("END_FOR")
}

// loop reads a pragma, and the loop that must stand behind it.
func (r *stmtReader) loop(s *api.Stmt) {
	s.Num = bound(r.Peek())
	r.Skip()
	switch {
	case r.Sees("WHILE"):
		s.Op = api.StWhile
		r.begin()
		s.Exprs = []api.Expr{r.expr()}
		r.Want("DO")
		s.Body = r.stmts()
		r.finish("END_WHILE")
	case r.Sees("REPEAT"):
		s.Op = api.StRepeat
		r.begin()
		s.Body = r.stmts()
		r.Want("UNTIL")
		s.Exprs = []api.Expr{r.expr()}
		r.finish("END_REPEAT")
	default:
		words.Fail(r.Peek().At, api.ErrToken)
	}
}

// bound is how many rounds a pragma lets a loop go.
func bound(t api.Token) int {
	digits, is := strings.CutPrefix(t.Text, "BOUND ")
	n, err := strconv.Atoi(digits)
	// Atoi takes signs and noughts ahead, too.
	is = is && err == nil && strconv.Itoa(n) == digits && n >= 1 && n <= api.MaxTimes
	words.Must(is, t.At, api.ErrBound)
	return n
}
