package st

import (
	"strconv"

	"relay/api"
)

func (p *printer) stmts(l []api.Stmt) {
	for _, s := range l {
		p.stmt(s)
	}
}

// body writes statements that stand within one.
func (p *printer) body(l []api.Stmt) {
	p.around++
	p.stmts(l)
	p.around--
}

func (p *printer) stmt(s api.Stmt) {
	switch s.Op {
	case api.StSet:
		p.Must(len(s.Exprs) == 2)
		p.begin()
		p.expr(s.Exprs[0], levelOr)
		p.end(" := ", s.Exprs[1], ";")
	case api.StCall:
		p.begin(s.Name)
		p.arguments(argList{s.Exprs, s.Names, s.Outs, s.OutNames})
		p.Put(";\n")
	case api.StIf:
		p.branches(s)
	case api.StCase:
		p.cases(s)
	case api.StFor:
		p.count(s)
	case api.StWhile, api.StRepeat:
		p.loop(s)
	case api.StExit:
		p.line("EXIT;")
	case api.StReturn:
		p.line("RETURN;")
	case api.StEmpty:
		p.line(";")
	default:
		p.Must(false)
	}
}

// end writes the rest of a line: an expression between two texts.
func (p *printer) end(ahead string, e api.Expr, behind string) {
	p.Put(ahead)
	p.expr(e, levelOr)
	p.Put(behind, "\n")
}

// head writes a line with a word, the one expression of a statement, and a word behind it.
func (p *printer) head(word string, s api.Stmt, behind string) {
	p.Must(len(s.Exprs) == 1)
	p.begin(word)
	p.end(" ", s.Exprs[0], behind)
}

func (p *printer) branches(s api.Stmt) {
	p.head("IF", s, " THEN")
	p.body(s.Body)
	for len(s.Else) == 1 && s.Else[0].Op == api.StIf {
		s = s.Else[0]
		p.head("ELSIF", s, " THEN")
		p.body(s.Body)
	}
	p.otherwise(s.Else)
	p.line("END_IF;")
}

func (p *printer) otherwise(l []api.Stmt) {
	if len(l) > 0 {
		p.line("ELSE")
		p.body(l)
	}
}

func (p *printer) cases(s api.Stmt) {
	p.head("CASE", s, " OF")
	p.around++
	for _, arm := range s.Body {
		p.labels(arm.Ranges)
		p.body(arm.Body)
	}
	p.around--
	p.otherwise(s.Else)
	p.line("END_CASE;")
}

func (p *printer) labels(l []api.Range) {
	p.begin()
	for i, x := range l {
		if i > 0 {
			p.Put(", ")
		}
		p.Put(strconv.Itoa(x.Lo))
		if x.Hi != x.Lo {
			p.Put("..", strconv.Itoa(x.Hi))
		}
	}
	p.Put(":\n")
}

func (p *printer) count(s api.Stmt) {
	p.Must(len(s.Exprs) == 2 || len(s.Exprs) == 3)
	p.begin("FOR ", s.Name, " := ")
	p.expr(s.Exprs[0], levelOr)
	p.Put(" TO ")
	p.expr(s.Exprs[1], levelOr)
	if len(s.Exprs) == 3 {
		p.Put(" BY ")
		p.expr(s.Exprs[2], levelOr)
	}
	p.Put(" DO\n")
	p.body(s.Body)
	p.line("END_FOR;")
}

func (p *printer) loop(s api.Stmt) {
	bound := "{BOUND " + strconv.Itoa(s.Num) + "} "
	if s.Op == api.StWhile {
		p.head(bound+"WHILE", s, " DO")
		p.body(s.Body)
		p.line("END_WHILE;")
		return
	}
	p.line(bound, "REPEAT")
	p.body(s.Body)
	p.head("UNTIL", s, "")
	p.line("END_REPEAT;")
}
