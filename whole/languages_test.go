package whole

import (
	"math/rand"
	"strings"
	"testing"

	"relay/api"
	"relay/graph"
	"relay/graphcore"
	"relay/il"
	"relay/ilcore"
	"relay/image"
	"relay/plc"
	"relay/samples"
	"relay/sfc"
	"relay/sfccore"
	"relay/st"
	"relay/value"
)

// turned is what a body of another language is turned into, and the hidden variables of that.
func turned(t *testing.T, u api.Pou) ([]api.Stmt, []api.Var) {
	t.Helper()
	var stmts []api.Stmt
	var vars []api.Var
	var err error
	switch u.Lang {
	case api.LangIL:
		l, _ := il.Parse(u.Text)
		stmts, vars, err = ilcore.Trees(l)
	case api.LangLD:
		l, _ := graph.Ladder(u.Text)
		stmts, vars, err = graphcore.Ladder(l)
	case api.LangFBD:
		l, _ := graph.Networks(u.Text)
		stmts, vars, err = graphcore.Networks(l)
	case api.LangSFC:
		c, _ := sfc.Parse(u.Text)
		stmts, vars, err = sfccore.Chart(c)
	}
	if err != nil {
		t.Fatal(u.Text, err)
	}
	return stmts, vars
}

// shown is a name that a source may have in the place of a hidden one.
func shown(name string) string {
	if strings.HasPrefix(name, "_") {
		return "HID" + name
	}
	return name
}

func showExprs(l []api.Expr) {
	for i := range l {
		l[i].Name = shown(l[i].Name)
		showExprs(l[i].Kids)
	}
}

func showStmts(l []api.Stmt) {
	for i := range l {
		l[i].Name = shown(l[i].Name)
		showExprs(l[i].Exprs)
		showExprs(l[i].Outs)
		showStmts(l[i].Body)
		showStmts(l[i].Else)
	}
}

// section is the declaration of a hidden variable.
func section(v api.Var) string {
	word, kind, init := "VAR", value.Word(v.Type.Kind), ""
	if v.Class == api.VarTemp {
		word = "VAR_TEMP"
	}
	if v.Type.Block != "" {
		kind = v.Type.Block
	}
	if len(v.Init) > 0 {
		init = " := " + value.Print(v.Init[0])
	}
	return " " + word + " " + shown(v.Name) + " : " + kind + init + "; END_VAR"
}

// inST is a source in which a POU of another language says the same in ST; false, if that has no text, or too many variables.
func inST(t *testing.T, source string, u api.Pou) (string, bool) {
	t.Helper()
	stmts, vars := turned(t, u)
	showStmts(stmts)
	text := st.Print(stmts)
	if text == "" && len(stmts) > 0 || len(u.Vars)+len(vars) > api.MaxVars {
		return "", false
	}
	sections := ""
	for _, v := range vars {
		sections += section(v)
	}
	ahead := source[:u.From]
	return ahead[:strings.LastIndex(ahead, "{")] + sections + "\n" + text + source[u.From+len(u.Text):], true
}

// P6: what is said in another language, and then in ST as its chapter turns it, is the same image, and does the same.
func TestTurnedIntoST(t *testing.T) {
	done := map[int]int{}
	each(t, 600, func(r *rand.Rand, x *plant) {
		p := x.project
		for i := range p.Pous {
			u := p.Pous[i]
			if u.Lang == api.LangST {
				continue
			}
			// The project's POUs have the hidden variables; those of the source have not.
			_, vars := turned(t, u)
			u.Vars = u.Vars[:len(u.Vars)-len(vars)]
			text, is := inST(t, x.sources[u.Source], u)
			if !is {
				continue
			}
			l := append([]string{}, x.sources...)
			l[u.Source] = text
			y := newPlant(t, l...)
			if !image.Same(x.image, y.image) {
				t.Fatalf("%q is another image than %q", l, x.sources)
			}
			done[u.Lang]++
		}
	})
	for lang := api.LangIL; lang <= api.LangSFC; lang++ {
		if done[lang] < 25 {
			t.Error(done)
		}
	}
}

// said is variables, and bodies that do the same with them.
type said struct {
	vars   string
	bodies []string
}

func bodies() []said {
	return []said{
		// The examples 6 and 7 of the whole, and the same as a network and as a chart
		{"", []string{
			"q := a AND NOT b;", "{ST} q := NOT b AND a;", "{IL} LD a\nANDN b\nST q", "{IL} LD b\nNOT\nAND( a\n)\nST q", "{IL} LDN b\nAND(\nLD a\n)\nST q", "{LD} RUNG a !b => q;", "{LD} RUNG [ a !b | a !b ] => q;",
			"{FBD} NETWORK n : BOOL := AND(a, NOT b); n => q; END_NETWORK", "{FBD} NETWORK n => q; n : BOOL := AND(IN1 := a, IN2 := m); m : BOOL := NOT(b); END_NETWORK",
			"{SFC} INITIAL_STEP s: x(N); END_STEP ACTION x: q := a AND NOT b; END_ACTION", "IF a THEN q := NOT b; ELSE q := FALSE; END_IF;", "{IL} LD FALSE\nST q\nLDN a\nJMPC l\nLDN b\nST q\nl:",
		}},
		// What is set stays until it is reset.
		{"", []string{
			"IF a THEN q := TRUE; END_IF; IF b THEN q := FALSE; END_IF;", "{IL} LD a\nS q\nLD b\nR q", "{LD} RUNG a => +q; RUNG b => -q;", "{IL} LD a\nOR q\nANDN b\nST q",
			"{FBD} NETWORK n : BOOL := OR(a, q); m : BOOL := AND(n, NOT b); m => q; END_NETWORK", "VAR f : RS; END_VAR f(S := a, R1 := b); q := f.Q1;", "VAR f : RS; END_VAR {FBD} NETWORK f(S := a, R1 := b); f.Q1 => q; END_NETWORK",
		}},
		// A pulse when a rises
		{"VAR e : R_TRIG; END_VAR", []string{
			"e(CLK := a, Q => q);", "{IL} CAL e(CLK := a)\nLD e.Q\nST q", "{LD} RUNG +a => q;", "{FBD} NETWORK e(CLK := a); e.Q => q; END_NETWORK", "VAR m : BOOL; END_VAR q := a AND NOT m; m := a;",
		}},
		// q, when a has been for 25 ms
		{"VAR t : TON; END_VAR", []string{
			"t(IN := a, PT := T#25ms); q := t.Q;", "t(IN := a, PT := T#25ms, Q => q);", "{IL} CAL t(IN := a, PT := T#25ms, Q => q)", "{FBD} NETWORK t(IN := a, PT := T#25ms); t.Q => q; END_NETWORK",
			"{SFC} INITIAL_STEP s: x(N); END_STEP ACTION x: t(IN := a, PT := T#25ms); q := t.Q; END_ACTION",
		}},
		// Numbers, with an overflow at last
		{"VAR n : SINT := 100; END_VAR", []string{
			"IF a THEN n := n + 9; END_IF; q := n > 110;", "{IL} LDN a\nJMPC l\nLD n\nADD 9\nST n\nl: LD n\nGT 110\nST q", "{FBD} NETWORK d : SINT := SEL(a, SINT#0, SINT#9); s : SINT := ADD(n, d); s => n; g : BOOL := GT(s, 110); g => q; END_NETWORK",
			"{IL} LD a\nSEL SINT#0, SINT#9\nADD n\nST n\nGT 110\nST q",
		}},
	}
}

// P6: what is said in one language and in another one does the same, under any script.
func TestOneMeaning(t *testing.T) {
	globals := "a AT %IX0.0 : BOOL; b AT %IX0.1 : BOOL; q AT %QX0.0 : BOOL; "
	for _, s := range bodies() {
		var scripts [][]api.Entry
		var want [][]api.Report
		outs, faults := map[uint64]int{}, 0
		for i, body := range s.bodies {
			x := newPlant(t, "PROGRAM p VAR_EXTERNAL a, b, q : BOOL; END_VAR "+s.vars+" "+body+"\nEND_PROGRAM", config(globals))
			for k := range 60 {
				if i == 0 {
					r := rand.New(rand.NewSource(int64(k)))
					scripts = append(scripts, samples.Script(r.Intn, x.image.Cells, 40))
				}
				l := x.played(t, scripts[k])
				if i == 0 {
					want = append(want, l)
				}
				for n, got := range l {
					if !same(got, want[k][n]) {
						t.Fatal(body, n, got, want[k][n])
					}
					outs[got.Outputs[0].Value.Bits]++
					faults += min(got.Fault, 1)
				}
			}
		}
		if outs[0] < 100 || outs[1] < 100 || strings.Contains(s.vars, "SINT") != (faults > 0) {
			t.Error(s.bodies, outs, faults)
		}
	}
}

// P9: a project whose bodies are those that were printed of it is the same image.
func TestPrinted(t *testing.T) {
	done := map[int]int{}
	each(t, 300, func(r *rand.Rand, x *plant) {
		for _, u := range x.project.Pous {
			text := ""
			switch u.Lang {
			case api.LangST:
				l, _ := st.Parse(u.Text)
				text = st.Print(l)
			case api.LangIL:
				l, _ := il.Parse(u.Text)
				text = il.Print(l)
			case api.LangLD:
				l, _ := graph.Ladder(u.Text)
				text = graph.PrintLadder(l)
			case api.LangFBD:
				l, _ := graph.Networks(u.Text)
				text = graph.PrintNetworks(l)
			case api.LangSFC:
				c, _ := sfc.Parse(u.Text)
				text = sfc.Print(c)
			}
			if text == "" {
				continue
			}
			l := append([]string{}, x.sources...)
			l[u.Source] = l[u.Source][:u.From] + "\n" + text + l[u.Source][u.From+len(u.Text):]
			if m, faults := plc.Compile(l); len(faults) > 0 || !image.Same(m, x.image) {
				t.Fatalf("%q: %v", l, faults)
			}
			done[u.Lang]++
		}
	})
	for lang := api.LangST; lang <= api.LangSFC; lang++ {
		if done[lang] < 30 {
			t.Error(done)
		}
	}
}

// A chart, and the same in ST by hand: one step further each time that a rises, round and round.
func TestChartByHand(t *testing.T) {
	globals := "a AT %IX0.0 : BOOL; q AT %QB0 : BYTE; up : BOOL; "
	edge := "PROGRAM edge VAR_EXTERNAL a, up : BOOL; END_VAR VAR e : R_TRIG; END_VAR e(CLK := a, Q => up); END_PROGRAM PROGRAM p VAR_EXTERNAL q : BYTE; up : BOOL; END_VAR "
	chart := "{SFC} INITIAL_STEP s0: x0(N); END_STEP STEP s1: x1(P); END_STEP STEP s2: END_STEP " +
		"TRANSITION FROM s0 TO s1 := up; END_TRANSITION TRANSITION FROM s1 TO s2 := up AND NOT s0.X; END_TRANSITION TRANSITION FROM s2 TO s0 := up; END_TRANSITION " +
		"ACTION x0: q := 1; END_ACTION ACTION x1: q := q OR 16#80; END_ACTION "
	byHand := "VAR n : INT; was : INT := -1; END_VAR IF up THEN n := (n + 1) MOD 3; END_IF; CASE n OF 0: q := 1; 1: IF was <> 1 THEN q := q OR 16#80; END_IF; END_CASE; was := n; "
	var l [2]*plant
	for i, body := range []string{chart, byHand} {
		l[i] = newPlant(t, edge+body+"END_PROGRAM", strings.Replace(config(globals), "PROGRAM one", "PROGRAM zero WITH t : edge; PROGRAM one", 1))
	}
	seen := map[uint64]int{}
	for seed := range int64(100) {
		r := rand.New(rand.NewSource(seed))
		script := samples.Script(r.Intn, l[0].image.Cells, 60)
		one, other := l[0].played(t, script), l[1].played(t, script)
		for i := range one {
			if !same(one[i], other[i]) {
				t.Fatal(i, one[i], other[i])
			}
			seen[one[i].Outputs[0].Value.Bits]++
		}
	}
	if seen[1] < 100 || seen[0x81] < 100 {
		t.Error(seen)
	}
}
