package graphcore_test

import (
	"math/rand"
	"reflect"
	"strconv"
	"strings"
	"testing"

	"relay/api"
	"relay/graphcore"
	"relay/shown"
	"relay/st"
)

// turned is a ladder's statements; their hidden variables must be those that are named (T VarTemp, L VarLocal).
func turned(t *testing.T, src, vars string) []api.Stmt {
	t.Helper()
	s, v, err := graphcore.Ladder(ladder(t, src))
	if err != nil {
		t.Errorf("%q: %v", src, err)
	}
	var want []api.Var
	for _, w := range strings.Fields(vars) {
		class := map[string]int{"T": api.VarTemp, "L": api.VarLocal}[w[:1]]
		want = append(want, api.Var{Name: w[1:], Class: class, Type: api.Type{Kind: api.KBool}})
	}
	if !reflect.DeepEqual(v, want) {
		t.Errorf("%q: %+v", src, v)
	}
	return s
}

// P11.1 and the chapter's first example: every sort of contact and coil.
func TestLadder(t *testing.T) {
	for _, x := range []struct{ src, want, vars string }{
		{"", "", ""},
		{"RUNG a !b => q;", "_R1 := (A AND (NOT B)); Q := _R1;", "T_R1"},
		{"RUNG +a => +q;", "_E1 := (A AND (NOT _P1)); _P1 := A; _R1 := _E1; IF _R1 THEN Q := TRUE; END_IF;", "T_E1 L_P1 T_R1"},
		{"RUNG -a => -q;", "_E1 := ((NOT A) AND _P1); _P1 := A; _R1 := _E1; IF _R1 THEN Q := FALSE; END_IF;", "T_E1 L_P1 T_R1"},
		{"RUNG a => !q;", "_R1 := A; Q := (NOT _R1);", "T_R1"},
		{"RUNG a => q, !r, +s, -t, q;", "_R1 := A; Q := _R1; R := (NOT _R1); IF _R1 THEN S := TRUE; END_IF; IF _R1 THEN T := FALSE; END_IF; Q := _R1;", "T_R1"},
		// No contact; brackets of one branch, of branches without contacts, and within one another.
		{"RUNG => q;", "_R1 := TRUE; Q := _R1;", "T_R1"},
		{"RUNG [ ] => q;", "_R1 := TRUE; Q := _R1;", "T_R1"},
		{"RUNG [ a ] => q;", "_R1 := A; Q := _R1;", "T_R1"},
		{"RUNG [ | ] => q;", "_R1 := (TRUE OR TRUE); Q := _R1;", "T_R1"},
		{"RUNG a [ b | !c | ] d => q;", "_R1 := ((A AND ((B OR (NOT C)) OR TRUE)) AND D); Q := _R1;", "T_R1"},
		{"RUNG [ a b | [ c | d e ] f ] => q;", "_R1 := ((A AND B) OR ((C OR (D AND E)) AND F)); Q := _R1;", "T_R1"},
		{"RUNG [ [ [ ] ] | [ [ a ] ] ] => q;", "_R1 := (TRUE OR A); Q := _R1;", "T_R1"},
		// Rows group from the left.
		{"RUNG a b c d => q;", "_R1 := (((A AND B) AND C) AND D); Q := _R1;", "T_R1"},
		{"RUNG [ a | b | c | d ] => q;", "_R1 := (((A OR B) OR C) OR D); Q := _R1;", "T_R1"},
		// Edges are numbered through branches and rungs, and stand ahead of their rung.
		{"RUNG +a b -a => q;", "_E1 := (A AND (NOT _P1)); _P1 := A; _E2 := ((NOT A) AND _P2); _P2 := A; _R1 := ((_E1 AND B) AND _E2); Q := _R1;", "T_E1 L_P1 T_E2 L_P2 T_R1"},
		{"RUNG [ +a | [ -b | +c ] ] +d => q;", "_E1 := (A AND (NOT _P1)); _P1 := A; _E2 := ((NOT B) AND _P2); _P2 := B; _E3 := (C AND (NOT _P3)); _P3 := C; _E4 := (D AND (NOT _P4)); _P4 := D; _R1 := ((_E1 OR (_E2 OR _E3)) AND _E4); Q := _R1;", "T_E1 L_P1 T_E2 L_P2 T_E3 L_P3 T_E4 L_P4 T_R1"},
		{"RUNG +a => q; RUNG b => r; RUNG -a => s;", "_E1 := (A AND (NOT _P1)); _P1 := A; _R1 := _E1; Q := _R1; _R2 := B; R := _R2; _E2 := ((NOT A) AND _P2); _P2 := A; _R3 := _E2; S := _R3;", "T_E1 L_P1 T_R1 T_R2 T_E2 L_P2 T_R3"},
		// Items with a point.
		{"RUNG t.q !u.q +v.q -w.q => x.in, !x.in, +x.in, -x.in;", "_E1 := (V.Q AND (NOT _P1)); _P1 := V.Q; _E2 := ((NOT W.Q) AND _P2); _P2 := W.Q; _R1 := (((T.Q AND (NOT U.Q)) AND _E1) AND _E2); X.IN := _R1; X.IN := (NOT _R1); IF _R1 THEN X.IN := TRUE; END_IF; IF _R1 THEN X.IN := FALSE; END_IF;", "T_E1 L_P1 T_E2 L_P2 T_R1"},
	} {
		if got := shown.Stmts(turned(t, x.src, x.vars)); got != x.want {
			t.Errorf("%q: %s, not %s", x.src, got, x.want)
		}
	}
	if e := turned(t, "RUNG a !b => q;", "T_R1")[0].Exprs[1]; st.PrintExpr(e) != "A AND NOT B" {
		t.Error(e)
	}
}

// Statements have the rung's place, expressions their element's; AND, OR, TRUE and _Rk the rung's; in an edge's statements all the edge's.
func TestLadderPlaces(t *testing.T) {
	for src, want := range map[string]string{
		" RUNG a !b => q;":            "1> 1:_R1 := (6:A 1:AND (8:NOT 8:B)); 1> 14:Q := 1:_R1;",
		" RUNG => !q, + q.x, - q;":    "1> 1:_R1 := 1:TRUE; 1> 9:Q := (9:NOT 1:_R1); 1> IF 1:_R1 THEN 1> 13:Q.X := 1:TRUE; END_IF; 1> IF 1:_R1 THEN 1> 20:Q := 20:FALSE; END_IF;",
		" RUNG + a => q;":             "1> 6:_E1 := (6:A 6:AND (6:NOT 6:_P1)); 1> 6:_P1 := 6:A; 1> 1:_R1 := 6:_E1; 1> 13:Q := 1:_R1;",
		" RUNG b - a.b => q;":         "1> 8:_E1 := ((8:NOT 8:A.B) 8:AND 8:_P1); 1> 8:_P1 := 8:A.B; 1> 1:_R1 := (6:B 1:AND 8:_E1); 1> 17:Q := 1:_R1;",
		" RUNG [ a | [ | c ] ] => q;": "1> 1:_R1 := (8:A 1:OR (1:TRUE 1:OR 16:C)); 1> 25:Q := 1:_R1;",
		"RUNG a => q; RUNG b => r;":   "0> 0:_R1 := 5:A; 0> 10:Q := 0:_R1; 13> 13:_R2 := 18:B; 13> 23:R := 13:_R2;",
	} {
		s, _, _ := graphcore.Ladder(ladder(t, src))
		if got := shown.Placed(s); got != want {
			t.Errorf("%q: %s, not %s", src, got, want)
		}
	}
}

// asModel holds what is answered against the model, places and all.
func asModel(t *testing.T, l []api.Rung) {
	t.Helper()
	s, v, err := graphcore.Ladder(l)
	want, vars := ladderModel(l)
	if got := shown.Placed(s); err != nil || got != want || !reflect.DeepEqual(v, vars) {
		t.Fatalf("%+v:\n%s\n%s\n%v", l, got, want, err)
	}
}

func TestAllSmallLadders(t *testing.T) {
	contacts := []string{"a", "!b", "+c", "-a", "[]", "[a]", "[!a|+b]", "[[+a|]|b -c]"}
	coils := []string{"q", "!q", "+q.x", "-q"}
	var rows []string
	for _, a := range append(contacts, "") {
		for _, b := range append(contacts, "") {
			for _, c := range contacts {
				rows = append(rows, "RUNG "+a+" "+b+" "+c+" => ")
			}
		}
	}
	for i, row := range rows {
		for j, coil := range coils {
			asModel(t, ladder(t, row+coil+"; "+rows[(i*7+j)%len(rows)]+coils[i%4]+","+coils[j]+";"))
		}
	}
}

func TestLaddersByChance(t *testing.T) {
	for seed := range int64(3000) {
		asModel(t, ladder(t, newMaker(seed).ladder(5)))
	}
}

// Elements of other Ops are as LdOpen among contacts and as LdCoil among coils, whatever branches they have.
func TestOtherElements(t *testing.T) {
	for op := -2; op < 15; op++ {
		if op >= api.LdOpen && op <= api.LdReset {
			continue
		}
		odd := api.Element{Op: op, At: 7, Name: "A", Branches: [][]api.Element{{{Op: api.LdRise, Name: "B"}}}}
		asModel(t, []api.Rung{{At: 3, Contacts: []api.Element{odd, odd}, Coils: []api.Element{odd}}})
	}
	for op := api.LdCoil; op <= api.LdReset; op++ {
		s, _, _ := graphcore.Ladder([]api.Rung{{Contacts: []api.Element{{Op: op, Name: "A"}}, Coils: []api.Element{{Op: api.LdCoil, Name: "Q"}}}})
		if got := shown.Stmts(s); got != "_R1 := A; Q := _R1;" {
			t.Error(op, got)
		}
	}
	for op := api.LdOpen; op <= api.LdBranches; op++ {
		odd := api.Element{Op: op, Name: "Q", Branches: [][]api.Element{{{Op: api.LdFall, Name: "B"}}}}
		s, v, _ := graphcore.Ladder([]api.Rung{{Coils: []api.Element{odd}}})
		if got := shown.Stmts(s); got != "_R1 := TRUE; Q := _R1;" || len(v) != 1 {
			t.Error(op, got, v)
		}
	}
	// A bracket without branches, and a rung without coils.
	s, _, _ := graphcore.Ladder([]api.Rung{{At: 5, Contacts: []api.Element{{Op: api.LdBranches, At: 9}}}})
	if got := shown.Placed(s); got != "5> 5:_R1 := 5:TRUE;" {
		t.Error(got)
	}
	// The first point parts an item.
	s, _, _ = graphcore.Ladder([]api.Rung{{Contacts: []api.Element{{Op: api.LdOpen, Name: "A.B.C"}}}})
	if e := s[0].Exprs[1]; e.Op != api.ExField || e.Name != "A" || e.Field != "B.C" {
		t.Error(e)
	}
	r := rand.New(rand.NewSource(1))
	for seed := range int64(5000) {
		l := ladder(t, newMaker(seed).ladder(3))
		for range 1 + r.Intn(3) {
			shake(r, reflect.ValueOf(&l).Elem())
		}
		asModel(t, l)
	}
}

// P11.3: rung by rung.
func TestRungByRung(t *testing.T) {
	for seed := range int64(500) {
		l := ladder(t, newMaker(seed).ladder(6))
		all, vars, _ := graphcore.Ladder(l)
		for n := range l {
			s, v, _ := graphcore.Ladder(l[:n])
			if len(s) > len(all) || len(v) > len(vars) || len(s) > 0 && !reflect.DeepEqual(s, all[:len(s)]) || len(v) > 0 && !reflect.DeepEqual(v, vars[:len(v)]) {
				t.Fatalf("%d of %+v", n, l)
			}
			// What a rung adds is what it is by itself, numbers aside.
			one, _, _ := graphcore.Ladder(l[n : n+1])
			next, _, _ := graphcore.Ladder(l[:n+1])
			if got := unnumbered(shown.Placed(next[len(s):])); got != unnumbered(shown.Placed(one)) {
				t.Fatalf("%d of %+v: %s", n, l, got)
			}
		}
	}
}

// unnumbered is a text without the numbers of hidden names.
func unnumbered(s string) string {
	var b strings.Builder
	within := false
	for _, c := range s {
		switch {
		case c == '_':
			within = true
		case c == ' ' || c == ')' || c == ';' || c == ',':
			within = false
		}
		if !within || c < '0' || c > '9' {
			b.WriteRune(c)
		}
	}
	return b.String()
}

// holds is what an expression of BOOLs is.
func holds(cells map[string]bool, e api.Expr) bool {
	switch e.Op {
	case api.OpAnd:
		return holds(cells, e.Kids[0]) && holds(cells, e.Kids[1])
	case api.OpOr:
		return holds(cells, e.Kids[0]) || holds(cells, e.Kids[1])
	case api.OpNot:
		return !holds(cells, e.Kids[0])
	case api.ExLit:
		return e.Value.Bits == 1
	}
	return cells[shown.Expr(e)]
}

func do(cells map[string]bool, l []api.Stmt) {
	for _, s := range l {
		switch {
		case s.Op == api.StSet:
			cells[shown.Expr(s.Exprs[0])] = holds(cells, s.Exprs[1])
		case holds(cells, s.Exprs[0]):
			do(cells, s.Body)
		}
	}
}

// wires is a ladder that is looked at as wires: items, and what each edge's item was, by the edge's place.
type wires struct {
	items map[string]bool
	was   map[int]bool
}

func (w wires) look(contacts []api.Element) {
	for _, e := range edgesOf(contacts) {
		w.was[e.At] = w.items[e.Name]
	}
}

func (w wires) flows(contacts []api.Element) bool {
	flow := true
	for _, c := range contacts {
		closed := w.items[c.Name]
		switch c.Op {
		case api.LdShut:
			closed = !closed
		case api.LdRise:
			closed = closed && !w.was[c.At]
		case api.LdFall:
			closed = !closed && w.was[c.At]
		case api.LdBranches:
			closed = false
			for _, b := range c.Branches {
				closed = closed || w.flows(b)
			}
		}
		flow = flow && closed
	}
	return flow
}

func (w wires) scan(l []api.Rung) {
	for _, r := range l {
		flow := w.flows(r.Contacts)
		w.look(r.Contacts)
		for _, c := range r.Coils {
			switch {
			case c.Op == api.LdCoil:
				w.items[c.Name] = flow
			case c.Op == api.LdNot:
				w.items[c.Name] = !flow
			case flow:
				w.items[c.Name] = c.Op == api.LdSet
			}
		}
	}
}

// The statements do, scan by scan, what the wires of the ladder do.
func TestScans(t *testing.T) {
	r := rand.New(rand.NewSource(2))
	for seed := range int64(1500) {
		l := ladder(t, newMaker(seed).ladder(4))
		stmts, vars, _ := graphcore.Ladder(l)
		w := wires{map[string]bool{}, map[int]bool{}}
		cells := map[string]bool{}
		for range 8 {
			for _, item := range strings.Fields("A B C T T.Q A.B") {
				is := r.Intn(2) == 0
				cells[item], w.items[item] = is, is
			}
			for _, v := range vars {
				if v.Class == api.VarTemp {
					cells[v.Name] = false
				}
			}
			do(cells, stmts)
			w.scan(l)
			for item, is := range w.items {
				if cells[item] != is {
					t.Fatalf("%s of %+v", item, l)
				}
			}
		}
	}
}

// Deep brackets and long rows, up to what a text may have, and beyond it.
func TestGreatLadders(t *testing.T) {
	deep := strings.Repeat("[", api.MaxDeep) + "+a" + strings.Repeat("]", api.MaxDeep)
	if got := shown.Stmts(turned(t, "RUNG "+deep+" => q;", "T_E1 L_P1 T_R1")); got != "_E1 := (A AND (NOT _P1)); _P1 := A; _R1 := _E1; Q := _R1;" {
		t.Error(got)
	}
	asModel(t, ladder(t, "RUNG "+strings.Repeat("+a ", 5000)+"=> q"+strings.Repeat(", +q", 1000)+";"))
	asModel(t, ladder(t, strings.Repeat("RUNG -a => q; ", 2700)))
	l := []api.Element{{Op: api.LdOpen, Name: "A"}}
	for range 1 << 16 {
		l = []api.Element{{Op: api.LdBranches, Branches: [][]api.Element{l}}}
	}
	if s, _, err := graphcore.Ladder([]api.Rung{{Contacts: l}}); err != nil || shown.Stmts(s) != "_R1 := A;" {
		t.Error(len(s), err)
	}
	many := make([]api.Rung, 20000)
	s, v, _ := graphcore.Ladder(many)
	if len(s) != len(many) || v[len(many)-1].Name != "_R"+strconv.Itoa(len(many)) {
		t.Error(len(s), len(v))
	}
}
