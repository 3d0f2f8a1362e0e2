package st_test

import (
	"math/rand"
	"reflect"
	"strconv"
	"strings"

	"relay/api"
	"relay/lex"
)

// maker writes statements that have no fault, and beside them knows their tree, with its places.
type maker struct {
	r     *rand.Rand
	b     strings.Builder
	plain bool // just literals that have a printed form
}

func newMaker(seed int64, plain bool) *maker {
	return &maker{r: rand.New(rand.NewSource(seed)), plain: plain}
}

// one is true once in n times.
func (m *maker) one(n int) bool { return m.r.Intn(n) == 0 }

func (m *maker) pick(l []string) string { return l[m.r.Intn(len(l))] }

// put writes a word in some letters, and blanks behind it; it is at the place that is told.
func (m *maker) put(s string) int {
	if m.one(2) && !strings.Contains(s, "'") {
		s = strings.ToLower(s)
	}
	at := m.b.Len()
	m.b.WriteString(s)
	m.b.WriteString(m.pick([]string{" ", " ", " ", "\n", "\t", " (* END_IF *) ", " // ;\n", "\r\n"}))
	return at
}

var (
	someNames     = strings.Fields("A B C1 IN Q LD S_2 BOUND ABCDEFGHIJKLMNOPQRSTUVWX")
	plainLiterals = strings.Fields("0 1 007 5_000 16#FF 2#101 18446744073709551615 TRUE FALSE INT#-5 SINT#-128 ULINT#18446744073709551615 WORD#16#BEEF BYTE#0 LWORD#5 LINT#-9223372036854775808 BOOL#1")
	otherLiterals = strings.Fields("1.5 LREAL#-0.0 T#1S D#2000-01-01 TOD#12:00:00 DT#2000-01-01-12:00:00 'A' '' STRING#'$''")
)

func (m *maker) name() (string, int) {
	s := m.pick(someNames)
	return s, m.put(s)
}

func (m *maker) literal() api.Expr {
	l := plainLiterals
	if !m.plain && m.one(4) {
		l = otherLiterals
	}
	s := m.pick(l)
	t, err := lex.Scan(s)
	if err != nil || len(t) != 1 {
		panic(s)
	}
	return api.Expr{Op: api.ExLit, At: m.put(s), Value: t[0].Value}
}

// The grammar's rows, from the one that binds least on.
var levels = [][]string{{"OR"}, {"XOR"}, {"AND", "&"}, {"=", "<>"}, {"<", "<=", ">", ">="}, {"+", "-"}, {"*", "/", "MOD"}}

var operations = map[string]int{
	"OR": api.OpOr, "XOR": api.OpXor, "AND": api.OpAnd, "&": api.OpAnd, "=": api.OpEq, "<>": api.OpNe, "<": api.OpLt, "<=": api.OpLe, ">": api.OpGt, ">=": api.OpGe,
	"+": api.OpAdd, "-": api.OpSub, "*": api.OpMul, "/": api.OpDiv, "MOD": api.OpMod,
}

// expr writes an expression; room is how much deeper it may go.
func (m *maker) expr(room int) api.Expr { return m.row(0, room) }

func (m *maker) row(level, room int) api.Expr {
	if level == len(levels) {
		return m.unary(room)
	}
	e := m.row(level+1, room)
	for m.one(9) {
		w := m.pick(levels[level])
		at := m.put(w)
		e = api.Expr{Op: operations[w], At: at, Kids: []api.Expr{e, m.row(level+1, room)}}
	}
	return e
}

func (m *maker) unary(room int) api.Expr {
	switch {
	case room > 0 && m.one(8):
		at := m.put("-")
		return api.Expr{Op: api.OpNeg, At: at, Kids: []api.Expr{m.unary(room - 1)}}
	case room > 0 && m.one(8):
		at := m.put("NOT")
		return api.Expr{Op: api.OpNot, At: at, Kids: []api.Expr{m.unary(room - 1)}}
	}
	return m.prime(room)
}

func (m *maker) prime(room int) api.Expr {
	switch {
	case room > 0 && m.one(6):
		m.put("(")
		e := m.expr(room - 1)
		m.put(")")
		return e
	case room > 0 && m.one(8):
		name, at := m.name()
		e := api.Expr{Op: api.ExCall, At: at, Name: name}
		m.put("(")
		for i := range m.r.Intn(4) {
			if i > 0 {
				m.put(",")
			}
			e.Names = append(e.Names, m.formal())
			e.Kids = append(e.Kids, m.expr(room-1))
		}
		m.put(")")
		return e
	case m.one(3):
		return m.literal()
	}
	return m.place(room)
}

// formal writes a formal name, or none.
func (m *maker) formal() string {
	if m.one(2) {
		return ""
	}
	name, _ := m.name()
	m.put(":=")
	return name
}

func (m *maker) place(room int) api.Expr {
	name, at := m.name()
	e := api.Expr{Op: api.ExName, At: at, Name: name}
	switch {
	case room > 0 && m.one(4):
		m.put("[")
		e.Op, e.Kids = api.ExIndex, []api.Expr{m.expr(room - 1)}
		m.put("]")
	case m.one(4):
		m.put(".")
		e.Op = api.ExField
		e.Field, _ = m.name()
	}
	return e
}

func (m *maker) stmts(room int) []api.Stmt {
	var l []api.Stmt
	for range m.r.Intn(3) {
		l = append(l, m.stmt(room))
		m.put(";")
	}
	return l
}

func (m *maker) stmt(room int) api.Stmt {
	if room == 0 {
		return m.flat(room)
	}
	switch m.r.Intn(10) {
	case 0:
		return m.branches("IF", room)
	case 1:
		return m.cases(room)
	case 2:
		return m.count(room)
	case 3, 4:
		return m.loop(room)
	case 5:
		return m.call(room)
	}
	return m.flat(room)
}

// flat writes a statement without others in it.
func (m *maker) flat(room int) api.Stmt {
	switch m.r.Intn(6) {
	case 0:
		return api.Stmt{Op: api.StExit, At: m.put("EXIT")}
	case 1:
		return api.Stmt{Op: api.StReturn, At: m.put("RETURN")}
	case 2:
		return api.Stmt{Op: api.StEmpty, At: m.b.Len()}
	}
	place := m.place(room)
	m.put(":=")
	return api.Stmt{Op: api.StSet, At: place.At, Exprs: []api.Expr{place, m.expr(room)}}
}

func (m *maker) call(room int) api.Stmt {
	name, at := m.name()
	s := api.Stmt{Op: api.StCall, At: at, Name: name}
	m.put("(")
	for i := range m.r.Intn(4) {
		if i > 0 {
			m.put(",")
		}
		if m.one(2) {
			s.Names = append(s.Names, m.formal())
			s.Exprs = append(s.Exprs, m.expr(room-1))
			continue
		}
		out, _ := m.name()
		m.put("=>")
		s.OutNames = append(s.OutNames, out)
		s.Outs = append(s.Outs, m.place(room-1))
	}
	m.put(")")
	return s
}

func (m *maker) branches(word string, room int) api.Stmt {
	s := api.Stmt{Op: api.StIf, At: m.put(word)}
	s.Exprs = []api.Expr{m.expr(room - 1)}
	m.put("THEN")
	s.Body = m.stmts(room - 1)
	if room > 1 && m.one(3) {
		s.Else = []api.Stmt{m.branches("ELSIF", room-1)}
		return s
	}
	if m.one(2) {
		m.put("ELSE")
		s.Else = m.stmts(room - 1)
	}
	m.put("END_IF")
	return s
}

func (m *maker) cases(room int) api.Stmt {
	s := api.Stmt{Op: api.StCase, At: m.put("CASE")}
	s.Exprs = []api.Expr{m.expr(room - 1)}
	m.put("OF")
	for range m.r.Intn(3) {
		arm := api.Stmt{Op: api.StArm, At: m.b.Len()}
		for i := range 1 + m.r.Intn(3) {
			if i > 0 {
				m.put(",")
			}
			arm.Ranges = append(arm.Ranges, m.label())
		}
		m.put(":")
		arm.Body = m.stmts(room - 1)
		s.Body = append(s.Body, arm)
	}
	if m.one(2) {
		m.put("ELSE")
		s.Else = m.stmts(room - 1)
	}
	m.put("END_CASE")
	return s
}

func (m *maker) label() api.Range {
	x := api.Range{Lo: m.number()}
	x.Hi = x.Lo
	if m.one(2) {
		m.put("..")
		x.Hi = m.number()
	}
	return x
}

func (m *maker) number() int {
	n := []int{0, 1, 7, 1 << 31, m.r.Intn(1 << 31)}[m.r.Intn(5)]
	if m.one(3) {
		m.put("-")
		m.put(strconv.Itoa(n))
		return -n
	}
	m.put(strconv.Itoa(n))
	return n
}

func (m *maker) count(room int) api.Stmt {
	s := api.Stmt{Op: api.StFor, At: m.put("FOR")}
	s.Name, _ = m.name()
	m.put(":=")
	s.Exprs = append(s.Exprs, m.expr(room-1))
	m.put("TO")
	s.Exprs = append(s.Exprs, m.expr(room-1))
	if m.one(2) {
		m.put("BY")
		s.Exprs = append(s.Exprs, m.expr(room-1))
	}
	m.put("DO")
	s.Body = m.stmts(room - 1)
	m.put("END_FOR")
	return s
}

func (m *maker) loop(room int) api.Stmt {
	s := api.Stmt{Num: []int{1, 3, api.MaxTimes, 1 + m.r.Intn(api.MaxTimes)}[m.r.Intn(4)]}
	s.At = m.put("{" + m.pick([]string{"", " ", "\n"}) + "BOUND" + m.pick([]string{" ", "  ", "\t\n"}) + strconv.Itoa(s.Num) + m.pick([]string{"", " "}) + "}")
	if m.one(2) {
		s.Op = api.StWhile
		m.put("WHILE")
		s.Exprs = []api.Expr{m.expr(room - 1)}
		m.put("DO")
		s.Body = m.stmts(room - 1)
		m.put("END_WHILE")
		return s
	}
	s.Op = api.StRepeat
	m.put("REPEAT")
	s.Body = m.stmts(room - 1)
	m.put("UNTIL")
	s.Exprs = []api.Expr{m.expr(room - 1)}
	m.put("END_REPEAT")
	return s
}

// program is a text and its tree.
func program(seed int64, plain bool) (string, []api.Stmt) {
	m := newMaker(seed, plain)
	l := m.stmts(1 + int(seed%5))
	return m.b.String(), l
}

// tidy is a tree in which empty lists are nil.
func tidy(l []api.Stmt) []api.Stmt {
	if len(l) == 0 {
		return nil
	}
	var made []api.Stmt
	for _, s := range l {
		s.Exprs, s.Outs, s.Body, s.Else = tidyExprs(s.Exprs), tidyExprs(s.Outs), tidy(s.Body), tidy(s.Else)
		s.Names, s.OutNames, s.Ranges = copied(s.Names), copied(s.OutNames), copied(s.Ranges)
		made = append(made, s)
	}
	return made
}

func tidyExprs(l []api.Expr) []api.Expr {
	var made []api.Expr
	for _, e := range l {
		e.Kids, e.Names = tidyExprs(e.Kids), copied(e.Names)
		made = append(made, e)
	}
	return made
}

func copied[T any](l []T) []T { return append([]T(nil), l...) }

func alike(a, b []api.Stmt) bool { return reflect.DeepEqual(tidy(a), tidy(b)) }

// placeless is a tree without places.
func placeless(l []api.Stmt) []api.Stmt {
	l = tidy(l)
	var exprs func([]api.Expr)
	exprs = func(l []api.Expr) {
		for i := range l {
			l[i].At = 0
			exprs(l[i].Kids)
		}
	}
	var stmts func([]api.Stmt)
	stmts = func(l []api.Stmt) {
		for i := range l {
			l[i].At = 0
			exprs(l[i].Exprs)
			exprs(l[i].Outs)
			stmts(l[i].Body)
			stmts(l[i].Else)
		}
	}
	stmts(l)
	return l
}
