package ilcore_test

import (
	"math/rand"
	"reflect"
	"strconv"
	"strings"
	"testing"

	"relay/api"
	"relay/ilcore"
	"relay/shown"
)

// longer is instructions for one, by the chapter's P12.2; none, if there are none.
func longer(r *rand.Rand, in api.IlInstr) []api.IlInstr {
	plain := in
	plain.Not = false
	bare := api.IlInstr{At: in.At}
	with := func(op string, args []api.Expr) api.IlInstr {
		x := bare
		x.Op, x.Args = op, args
		return x
	}
	switch {
	case in.Op == "LD" && in.Not:
		return []api.IlInstr{plain, with("NOT", nil)}
	case in.Op == "ST" && in.Not:
		not := with("NOT", nil)
		not.Label = in.Label
		plain.Label = ""
		return []api.IlInstr{not, plain, with("NOT", nil)}
	case signs[in.Op] == "" || in.Open:
		return nil
	case in.Not:
		plain.Open, plain.Args = true, nil
		load := with("LD", in.Args)
		load.Not = true
		return []api.IlInstr{plain, load, with(")", nil)}
	}
	plain.Open = true
	return []api.IlInstr{plain, with(")", nil)}
}

// P12.2: longer words come to the same, places aside; where the one has a fault the other has one.
func TestLongerWords(t *testing.T) {
	r := rand.New(rand.NewSource(1))
	grown, faults := 0, 0
	for seed := range int64(6000) {
		l := parsed(t, newMaker(seed).source(12))
		var m []api.IlInstr
		for _, in := range l {
			more := longer(r, in)
			if len(more) == 0 || r.Intn(2) == 0 {
				more = []api.IlInstr{in}
			}
			m = append(m, more...)
		}
		a, av, aErr := ilcore.Trees(l)
		b, bv, bErr := ilcore.Trees(m)
		if (aErr == nil) != (bErr == nil) || shown.Stmts(a) != shown.Stmts(b) || !reflect.DeepEqual(av, bv) {
			t.Fatalf("%+v: %v; %+v: %v\n%s\n%s", l, aErr, m, bErr, shown.Stmts(a), shown.Stmts(b))
		}
		if aErr != nil {
			faults++
		} else if len(m) > len(l) {
			grown++
		}
	}
	if grown < 2000 || faults < 200 {
		t.Error(grown, faults)
	}
}

// By hand, one word each; a turned operation may stand for a turned bracket, too.
func TestLongerWordsByHand(t *testing.T) {
	for a, b := range map[string]string{
		"LDN x; ST y":               "LD x; NOT; ST y",
		"LD a; STN x; ST y":         "LD a; NOT; ST x; NOT; ST y",
		"LD a; ANDN x; ST y":        "LD a; AND(; LDN x; ); ST y",
		"LD a; XORN x; ST y":        "LD a; XOR(; LDN x; ); ST y",
		"LD a; ADD x; ST y":         "LD a; ADD( x; ); ST y",
		"LD a; LT x; ST y":          "LD a; LT( x; ); ST y",
		"LD a; ORN x; ST y":         "LD a; ORN( x; ); ST y",
		"LD a; ORN(; LD x; ); ST y": "LD a; ORN( x; ); ST y",
		"ANDN x":                    "AND(; LDN x; )",
		"STN x":                     "NOT; ST x; NOT",
		"ADD x":                     "ADD( x; )",
		"LD a; AND( b; STN x":       "LD a; AND( b; NOT; ST x; NOT",
	} {
		s, v, err := ilcore.Trees(parsed(t, lines(a)))
		u, w, other := ilcore.Trees(parsed(t, lines(b)))
		if shown.Stmts(s) != shown.Stmts(u) || !reflect.DeepEqual(v, w) || (err == nil) != (other == nil) || err == nil && len(s) == 0 {
			t.Errorf("%q and %q: %s, %s; %v, %v", a, b, shown.Stmts(s), shown.Stmts(u), err, other)
		}
	}
}

// P12.3: part by part.
func TestPartByPart(t *testing.T) {
	both, kept := 0, 0
	for seed := range int64(6000) {
		l := parsed(t, newMaker(seed).source(int(seed%9)))
		m := parsed(t, "LD a\n"+newMaker(-seed-1).source(int(seed%7)))
		if seed%5 == 0 {
			m = nil
		}
		a, av, aErr := ilcore.Trees(l)
		b, bv, bErr := ilcore.Trees(m)
		if aErr != nil || bErr != nil {
			continue
		}
		all, vars, err := ilcore.Trees(append(append([]api.IlInstr{}, l...), m...))
		want := append(append([]api.Stmt{}, a...), b...)
		if err != nil || shown.Placed(all) != shown.Placed(want) || len(vars) != max(len(av), len(bv)) || !reflect.DeepEqual(vars, accVar(len(vars) > 0)) {
			t.Fatalf("%+v %+v: %s %v", l, m, shown.Placed(all), err)
		}
		if len(a) > 0 && len(b) > 0 {
			both++
		}
		kept += len(vars)
	}
	if both < 1000 || kept < 500 {
		t.Error(both, kept)
	}
}

// nodes is how many statements and expressions there are.
func nodes(l []api.Stmt) int {
	n := 0
	for _, s := range l {
		n += 1 + parts(s.Exprs) + parts(s.Outs) + nodes(s.Body) + nodes(s.Else)
	}
	return n
}

func parts(l []api.Expr) int {
	n := len(l)
	for _, e := range l {
		n += parts(e.Kids)
	}
	return n
}

// P12.4: as long as it is.
func TestLength(t *testing.T) {
	check := func(l []api.IlInstr) {
		s, _, _ := ilcore.Trees(l)
		most := 12 * len(l)
		for _, in := range l {
			most += 2 * (parts(in.Args) + parts(in.Outs))
		}
		if n := nodes(s); n > most {
			t.Fatalf("%+v: %d nodes, not %d", l, n, most)
		}
	}
	for seed := range int64(2000) {
		check(parsed(t, newMaker(seed).source(20)))
	}
	for _, in := range []string{"S b", "R b", "JMPCN l", "CALCN t", "RETCN", "STN b", "STN x[y[3]]"} {
		check(parsed(t, "LD a\n"+strings.Repeat(in+"\n", 1000)))
	}
}

// As long as a text may be: rows, brackets within one another, and lists beyond that.
func TestGreat(t *testing.T) {
	asModel(t, parsed(t, "LD a\n"+strings.Repeat("ADD b\n", api.MaxLines-2)+"ST c"))
	deep := "LD a\n" + strings.Repeat("AND( b\n", 2000) + strings.Repeat(")\n", 2000) + "ST c"
	asModel(t, parsed(t, deep))
	e := api.Expr{Op: api.ExName, Name: "A"}
	for range 1 << 16 {
		e = api.Expr{Op: api.ExIndex, Name: "X", Kids: []api.Expr{e}}
	}
	if s, _, err := ilcore.Trees([]api.IlInstr{{Op: "LD", Args: []api.Expr{e}}, {Op: "ST", Args: []api.Expr{e}}}); err != nil || nodes(s) != 1+2*(1<<16+1) {
		t.Error(len(s), err)
	}
	var l []api.IlInstr
	for i := range 100000 {
		l = append(l, api.IlInstr{At: i, Label: "L" + strconv.Itoa(i)})
	}
	if s, _, err := ilcore.Trees(l); err != nil || len(s) != len(l) {
		t.Error(len(s), err)
	}
}

// machine does instructions one by one over variables of BOOL, with an accumulator that is a value.
type machine struct {
	cells map[string]bool
	log   []string
}

func (m *machine) operand(e api.Expr) bool {
	if e.Op == api.ExLit {
		return e.Value.Bits == 1
	}
	return m.cells[shown.Expr(e)]
}

func reckon(op string, a, b bool) bool {
	switch op {
	case "AND":
		return a && b
	case "OR":
		return a || b
	}
	return a != b
}

func (m *machine) run(l []api.IlInstr) {
	type open struct {
		op  string
		not bool
		acc bool
	}
	var stack []open
	acc := false
	for at := 0; at < len(l); at++ {
		in := l[at]
		x := false
		if len(in.Args) > 0 && in.Op != "CAL" {
			x = m.operand(in.Args[0])
		}
		does := !in.Cond || acc != in.Not
		switch in.Op {
		case "LD":
			acc = x != in.Not
		case "AND", "OR", "XOR":
			if in.Open {
				stack = append(stack, open{in.Op, in.Not, acc})
				acc = x
			} else {
				acc = reckon(in.Op, acc, x != in.Not)
			}
		case ")":
			b := stack[len(stack)-1]
			stack = stack[:len(stack)-1]
			acc = reckon(b.op, b.acc, acc != b.not)
		case "NOT":
			acc = !acc
		case "ST":
			m.cells[shown.Expr(in.Args[0])] = acc != in.Not
		case "S", "R":
			if acc {
				m.cells[shown.Expr(in.Args[0])] = in.Op == "S"
			}
		case "CAL":
			if does {
				m.log = append(m.log, in.Name)
			}
		case "RET":
			if does {
				return
			}
		case "JMP":
			if !does {
				continue
			}
			for at++; l[at].Label != in.Name; at++ {
			}
			at--
		}
	}
}

// do does statements; true: a StReturn ended them.
func (m *machine) do(l []api.Stmt) bool {
	for at := 0; at < len(l); at++ {
		s := l[at]
		switch {
		case s.Op == api.StSet:
			m.cells[shown.Expr(s.Exprs[0])] = m.value(s.Exprs[1])
		case s.Op == api.StIf && m.value(s.Exprs[0]):
			if m.do(s.Body) {
				return true
			}
		case s.Op == api.StCall:
			m.log = append(m.log, s.Name)
		case s.Op == api.StReturn:
			return true
		case s.Op == api.StJump && (len(s.Exprs) == 0 || m.value(s.Exprs[0])):
			for at++; l[at].Op != api.StLabel || l[at].Name != s.Name; at++ {
			}
		}
	}
	return false
}

func (m *machine) value(e api.Expr) bool {
	switch e.Op {
	case api.OpNot:
		return !m.value(e.Kids[0])
	case api.OpAnd, api.OpOr, api.OpXor:
		a, b := m.value(e.Kids[0]), m.value(e.Kids[1])
		return reckon(map[int]string{api.OpAnd: "AND", api.OpOr: "OR", api.OpXor: "XOR"}[e.Op], a, b)
	}
	return m.operand(e)
}

// bits writes a list over BOOLs; its jumps lead to the next label.
func (m *maker) bits(lines int) string {
	s := ""
	for range lines {
		if !m.has {
			s += m.pick("LD ", "LDN ") + m.pick("a", "b", "t.q", "TRUE") + "\n"
			m.has = true
		}
		switch m.r.Intn(10) {
		case 0, 1:
			s += m.pick("AND", "OR", "XOR") + m.pick("", "N") + m.pick(" a", " b", " c", " t.q") + "\n"
		case 2:
			s += m.pick("AND", "OR", "XOR") + m.pick("", "N") + "( " + m.pick("a", "b", "c") + "\n"
			s += m.pick("NOT\n", "OR( b\nNOT\n)\n", "AND c\n") + ")\n"
		case 3:
			s += m.pick("S ", "R ") + m.pick("a", "b", "c") + "\n"
		case 4:
			s += m.pick("NOT", "CALC t", "CALCN u", "RETC", "RETCN", "LD c") + "\n"
		case 5:
			s += m.pick("JMPC l", "JMPCN l") + "\n"
		case 6:
			s += m.pick("JMP l", "CAL t", "l:") + "\n"
			m.has = false
		default:
			s += m.pick("ST ", "STN ") + m.pick("a", "b", "c", "t.q") + "\n"
		}
	}
	return s + "l:"
}

// The statements do what the instructions do, one by one.
func TestRuns(t *testing.T) {
	r := rand.New(rand.NewSource(5))
	for seed := range int64(4000) {
		src := newMaker(seed).bits(1 + int(seed%30))
		l := parsed(t, src)
		s, _, err := ilcore.Trees(l)
		if err != nil {
			t.Fatalf("%q: %v", src, err)
		}
		a := machine{cells: map[string]bool{}}
		b := machine{cells: map[string]bool{}}
		for _, x := range strings.Fields("A B C T.Q") {
			is := r.Intn(2) == 0
			a.cells[x], b.cells[x] = is, is
		}
		a.run(l)
		b.do(s)
		delete(b.cells, "_ACC")
		if !reflect.DeepEqual(a, b) {
			t.Fatalf("%q: %v, not %v", src, b, a)
		}
	}
}
