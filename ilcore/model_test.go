package ilcore_test

import (
	"math/rand"
	"strconv"
	"strings"
	"testing"

	"relay/api"
	"relay/il"
	"relay/shown"
)

// maker writes lists by chance, most of them without a fault.
type maker struct {
	r    *rand.Rand
	has  bool // something is in the accumulator
	open int  // brackets
}

func newMaker(seed int64) *maker { return &maker{r: rand.New(rand.NewSource(seed))} }

func (m *maker) pick(words ...string) string { return words[m.r.Intn(len(words))] }

func (m *maker) operand() string {
	return m.pick("a", "b", "t.q", "x[i]", "x[y[3] + 1]", "5", "-7", "TRUE")
}

func (m *maker) place() string { return m.pick("a", "b", "c", "x[i]", "x[-i]", "t.q") }

// source writes lines; now and then one that may have a fault.
func (m *maker) source(lines int) string {
	s := ""
	for range lines {
		if m.r.Intn(60) == 0 {
			s += m.pick(")", "ST a", "AND( b", "AND(", "l9: LD a", "S b", "RETC", "NOT") + "\n"
			continue
		}
		s += m.line() + "\n"
	}
	for ; m.open > 0 && m.r.Intn(40) > 0; m.open-- {
		if !m.has {
			s += "LD " + m.operand() + "\n"
		}
		m.has = true
		s += ")\n"
	}
	return s
}

func (m *maker) line() string {
	label := ""
	if m.open == 0 && m.r.Intn(8) == 0 {
		m.has = false
		label = m.pick("l", "ld", "m") + ": "
		if m.r.Intn(3) == 0 {
			return label
		}
	}
	switch {
	case !m.has && m.open == 0 && m.r.Intn(4) == 0:
		return label + m.pick("JMP l", "CAL t", "CAL t(a, IN := b[i], Q => c)", "RET")
	case !m.has:
		m.has = true
		return label + m.pick("LD ", "LDN ") + m.operand()
	case m.r.Intn(3) == 0:
		return label + m.pick("AND ", "ANDN ", "& ", "OR ", "ORN ", "XOR ", "XORN ", "ADD ", "SUB ", "MUL ", "DIV ", "MOD ", "GT ", "GE ", "EQ ", "NE ", "LE ", "LT ") + m.operand()
	case m.r.Intn(4) == 0:
		m.open++
		m.has = m.r.Intn(2) == 0
		s := label + m.pick("AND(", "ANDN(", "OR(", "ORN(", "XOR(", "XORN(", "ADD(", "SUB(", "LT(")
		if m.has {
			s += " " + m.operand()
		}
		return s
	case m.open > 0 && m.r.Intn(2) == 0:
		m.open--
		return ")"
	case m.open > 0 || m.r.Intn(4) == 0:
		return label + m.pick("NOT", "ABS", "MAX b, 3", "LIMIT x[i], t.q", "LD "+m.operand(), "LDN a")
	}
	return label + m.effect()
}

// effect is an instruction that may stand in no bracket.
func (m *maker) effect() string {
	s := m.pick("ST ", "STN ", "S ", "R ")
	if m.r.Intn(3) > 0 {
		return s + m.place()
	}
	s = m.pick("JMP l", "JMPC l", "JMPCN m", "CAL t", "CALC t(a)", "CALCN t(IN := b[i], Q => c, R => x[3])", "RET", "RETC", "RETCN")
	m.has = strings.Contains(strings.Fields(s)[0][3:], "C")
	return s
}

func parsed(t *testing.T, src string) []api.IlInstr {
	t.Helper()
	l, err := il.Parse(src)
	if err != nil {
		t.Fatalf("%q: %v", src, err)
	}
	return l
}

// model is what the chapter says, in texts.
type model struct {
	out   []string
	acc   string // the accumulator's text; empty: nothing
	stack []frame
	kept  bool
}

// frame is a bracket that is open.
type frame struct {
	at    int
	op    string
	turn  bool
	ahead string
}

var signs = map[string]string{"AND": "AND", "OR": "OR", "XOR": "XOR", "ADD": "+", "SUB": "-", "MUL": "*", "DIV": "/", "MOD": "MOD", "GT": ">", "GE": ">=", "EQ": "=", "NE": "<>", "LE": "<=", "LT": "<"}

// treesModel is the statements' text, with places, whether the accumulator was kept, and the fault, if there is one.
func treesModel(l []api.IlInstr) (string, bool, error) {
	var m model
	for _, in := range l {
		if why := m.do(in); why != api.OK {
			return "", false, api.Fault{At: in.At, Why: why}
		}
	}
	if n := len(m.stack); n > 0 {
		return "", false, api.Fault{At: m.stack[n-1].at, Why: api.ErrBrace}
	}
	return strings.Join(m.out, " "), m.kept, nil
}

func (m *model) do(in api.IlInstr) api.Errno {
	at := strconv.Itoa(in.At)
	if in.Label != "" {
		if len(m.stack) > 0 {
			return api.ErrBrace
		}
		m.out = append(m.out, at+"> "+in.Label+":")
		m.acc = ""
	}
	not := func(s string) string { return "(" + at + ":NOT " + s + ")" }
	x := ""
	if len(in.Args) > 0 {
		x = shown.PlacedExpr(in.Args[0])
	}
	within := func(turn bool, s string) string {
		if turn {
			return not(s)
		}
		return s
	}
	switch in.Op {
	case "":
		return api.OK
	case "LD":
		m.acc = within(in.Not, x)
		return api.OK
	case ")":
		n := len(m.stack) - 1
		if n < 0 {
			return api.ErrBrace
		}
		if m.acc == "" {
			return api.ErrAcc
		}
		f := m.stack[n]
		m.stack = m.stack[:n]
		m.acc = "(" + f.ahead + " " + at + ":" + f.op + " " + within(f.turn, m.acc) + ")"
		return api.OK
	case "NOT", "FN":
		if m.acc == "" {
			return api.ErrAcc
		}
		if in.Op == "NOT" {
			m.acc = not(m.acc)
			return api.OK
		}
		for _, e := range in.Args {
			m.acc += ", " + shown.PlacedExpr(e)
		}
		m.acc = at + ":" + in.Name + "(" + m.acc + ")"
		return api.OK
	}
	if sign := signs[in.Op]; sign != "" {
		if m.acc == "" {
			return api.ErrAcc
		}
		if in.Open {
			m.stack = append(m.stack, frame{in.At, sign, in.Not, m.acc})
			m.acc = x
			return api.OK
		}
		m.acc = "(" + m.acc + " " + at + ":" + sign + " " + within(in.Not, x) + ")"
		return api.OK
	}
	return m.effect(in, at, x, not)
}

// effect is the chapter's sixth rule.
func (m *model) effect(in api.IlInstr, at, x string, not func(string) string) api.Errno {
	if len(m.stack) > 0 {
		return api.ErrBrace
	}
	free := !in.Cond && (in.Op == "JMP" || in.Op == "CAL" || in.Op == "RET")
	if !free && m.acc == "" {
		return api.ErrAcc
	}
	put := func(s string) { m.out = append(m.out, at+"> "+s+";") }
	h := at + ":_ACC"
	if in.Op == "ST" {
		if in.Not {
			put(x + " := " + not(m.acc))
			m.acc = not(x)
		} else {
			put(x + " := " + m.acc)
			m.acc = x
		}
		return api.OK
	}
	if free {
		m.acc = ""
	} else {
		put(h + " := " + m.acc)
		m.acc, m.kept = h, true
	}
	is := h
	if in.Not {
		is = not(h)
	}
	what := map[string]string{"S": x + " := " + at + ":TRUE", "R": x + " := " + at + ":FALSE", "RET": "RETURN"}[in.Op]
	if in.Op == "CAL" {
		what = callText(in)
	}
	switch {
	case in.Op == "JMP" && free:
		put("JMP " + in.Name)
	case in.Op == "JMP":
		put("JMP " + in.Name + " IF " + is)
	case free:
		put(what)
	default:
		put("IF " + is + " THEN " + at + "> " + what + "; END_IF")
	}
	return api.OK
}

func callText(in api.IlInstr) string {
	s := in.Name + "("
	for i, e := range in.Args {
		if i > 0 {
			s += ", "
		}
		if in.Names[i] != "" {
			s += in.Names[i] + " := "
		}
		s += shown.PlacedExpr(e)
	}
	s += "|"
	for i, e := range in.Outs {
		if i > 0 {
			s += ", "
		}
		s += in.OutNames[i] + " => " + shown.PlacedExpr(e)
	}
	return s + ")"
}
