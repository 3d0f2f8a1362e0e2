package il_test

import (
	"math/rand"
	"reflect"
	"strings"

	"relay/api"
	"relay/st"
)

// maker writes lines that have no fault, and beside them knows their instructions, with places, and their printed form.
type maker struct {
	r    *rand.Rand
	b    strings.Builder
	list []api.IlInstr
	form strings.Builder
}

func newMaker(seed int64) *maker { return &maker{r: rand.New(rand.NewSource(seed))} }

func (m *maker) pick(words string) string {
	l := strings.Fields(words)
	return l[m.r.Intn(len(l))]
}

// put writes a word in some letters, and blanks behind it that part no lines.
func (m *maker) put(s string) int {
	if m.r.Intn(2) == 0 {
		s = strings.ToLower(s)
	}
	at := m.b.Len()
	m.b.WriteString(s)
	m.b.WriteString([]string{" ", "\t", " (* ) *) ", "  "}[m.r.Intn(4)])
	return at
}

// end parts lines.
func (m *maker) end() {
	m.b.WriteString([]string{"\n", "\n", "\r\n", " // LD\n", "\n \n", "(* a\n b *)", "\n(* \n\n *) \n"}[m.r.Intn(7)])
}

// source writes lines; each of them knows what it is by itself.
func (m *maker) source(lines int) string {
	for range lines {
		at := m.b.Len()
		in := api.IlInstr{At: at}
		ahead := " "
		if m.r.Intn(3) == 0 {
			in.Label = m.pick("L1 LOOP A LD S CAL")
			m.put(in.Label)
			m.put(":")
			ahead = in.Label + ":"
		}
		if in.Label == "" || m.r.Intn(4) > 0 {
			ahead += " " + m.instruction(&in)
		}
		m.end()
		m.list = append(m.list, in)
		m.form.WriteString(ahead + "\n")
	}
	return m.b.String()
}

// instruction writes an instruction; it answers its form.
func (m *maker) instruction(in *api.IlInstr) string {
	switch m.r.Intn(8) {
	case 0:
		in.Op, in.Not = "LD", m.r.Intn(2) == 0
		return m.operator(in) + m.operands(in, 1)
	case 1:
		in.Op = m.pick("ST S R")
		in.Not = in.Op == "ST" && m.r.Intn(2) == 0
		return m.operator(in) + m.places(in)
	case 2, 3:
		in.Op = m.pick("AND OR XOR ADD SUB MUL DIV MOD GT GE EQ NE LE LT")
		in.Not = strings.Contains("AND OR XOR", in.Op) && m.r.Intn(2) == 0
		in.Open = m.r.Intn(3) == 0
		form := m.operator(in)
		if in.Open {
			m.put("(")
			form += "("
		}
		if in.Open && m.r.Intn(2) == 0 {
			return form
		}
		return form + m.operands(in, 1)
	case 4:
		in.Op = m.pick("NOT )")
		return m.operator(in)
	case 5:
		in.Op, in.Name = "FN", m.pick("MAX ABS FN LDC JMPN ADDN RETN NOTN SN T")
		m.put(in.Name)
		return in.Name + m.operands(in, m.r.Intn(4))
	}
	in.Op, in.Cond = m.pick("JMP CAL RET"), m.r.Intn(2) == 0
	in.Not = in.Cond && m.r.Intn(2) == 0
	form := m.operator(in)
	if in.Op == "RET" {
		return form
	}
	in.Name = m.pick("L1 T X_1 LD")
	m.put(in.Name)
	if in.Op == "JMP" {
		return form + " " + in.Name
	}
	return form + " " + in.Name + m.arguments(in)
}

func (m *maker) operator(in *api.IlInstr) string {
	s := in.Op
	if in.Cond {
		s += "C"
	}
	if in.Not {
		s += "N"
	}
	if s == "AND" && m.r.Intn(2) == 0 {
		m.put("&")
	} else {
		m.put(s)
	}
	return s
}

// shift moves the places of an expression.
func shift(e api.Expr, by int) api.Expr {
	e.At += by
	for i := range e.Kids {
		e.Kids[i] = shift(e.Kids[i], by)
	}
	return e
}

// expr writes one of some expressions.
func (m *maker) expr(l []string) api.Expr {
	s := l[m.r.Intn(len(l))]
	e, err := st.Expr(s)
	if err != nil {
		panic(s)
	}
	return shift(e, m.put(s))
}

var (
	somePlaces   = []string{"a", "b.q", "c[1]", "d[i + 2 * (j - 1)]", "LD", "( a )", "((a.b))"}
	someOperands = append([]string{"5", "-5", "INT#-5", "- 7", "TRUE", "WORD#16#FF", "(5)", "-(5)", "( a[1] )", "-TRUE"}, somePlaces...)
)

func (m *maker) places(in *api.IlInstr) string {
	in.Args = []api.Expr{m.expr(somePlaces)}
	return " " + st.PrintExpr(in.Args[0])
}

func (m *maker) operands(in *api.IlInstr, n int) string {
	var l []string
	for i := range n {
		if i > 0 {
			m.put(",")
		}
		// Behind an operator a bracket would open one.
		options := someOperands
		if i == 0 && !in.Open && in.Op != "FN" && in.Op != "LD" {
			options = []string{"5", "-5", "a", "b.q", "c[i]", "TRUE", "-(5)"}
		}
		e := m.expr(options)
		in.Args = append(in.Args, e)
		l = append(l, st.PrintExpr(e))
	}
	if n == 0 {
		return ""
	}
	return " " + strings.Join(l, ", ")
}

func (m *maker) arguments(in *api.IlInstr) string {
	if m.r.Intn(3) == 0 {
		return "()"
	}
	var ins, outs []string
	m.put("(")
	for i := range m.r.Intn(4) {
		if i > 0 {
			m.put(",")
		}
		name := m.pick("IN Q PT")
		if m.r.Intn(3) == 0 {
			m.put(name)
			m.put("=>")
			in.OutNames = append(in.OutNames, name)
			in.Outs = append(in.Outs, m.expr(somePlaces[:5]))
			outs = append(outs, name+" => "+st.PrintExpr(in.Outs[len(in.Outs)-1]))
			continue
		}
		form := ""
		if m.r.Intn(2) == 0 {
			name = ""
		} else {
			m.put(name)
			m.put(":=")
			form = name + " := "
		}
		e := m.expr([]string{"a", "a + b", "f(x := 1, 2)", "NOT a AND b", "-5", "c[1]"})
		in.Names = append(in.Names, name)
		in.Args = append(in.Args, e)
		ins = append(ins, form+st.PrintExpr(e))
	}
	m.put(")")
	return "(" + strings.Join(append(ins, outs...), ", ") + ")"
}

// tidy is instructions in which empty lists are nil.
func tidy(l []api.IlInstr) []api.IlInstr {
	var made []api.IlInstr
	for _, in := range l {
		in.Args, in.Outs = tidyExprs(in.Args), tidyExprs(in.Outs)
		in.Names, in.OutNames = append([]string(nil), in.Names...), append([]string(nil), in.OutNames...)
		made = append(made, in)
	}
	return made
}

func tidyExprs(l []api.Expr) []api.Expr {
	var made []api.Expr
	for _, e := range l {
		e.Kids, e.Names = tidyExprs(e.Kids), append([]string(nil), e.Names...)
		made = append(made, e)
	}
	return made
}

func alike(a, b []api.IlInstr) bool { return reflect.DeepEqual(tidy(a), tidy(b)) }

// placeless is instructions without places.
func placeless(l []api.IlInstr) []api.IlInstr {
	l = tidy(l)
	var exprs func([]api.Expr)
	exprs = func(l []api.Expr) {
		for i := range l {
			l[i].At = 0
			exprs(l[i].Kids)
		}
	}
	for i := range l {
		l[i].At = 0
		exprs(l[i].Args)
		exprs(l[i].Outs)
	}
	return l
}
