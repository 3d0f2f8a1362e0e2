package sfccore_test

import (
	"errors"
	"reflect"
	"strconv"
	"strings"
	"testing"

	"relay/api"
	"relay/sfccore"
	"relay/shown"
)

const (
	stepA  = "INITIAL_STEP a: END_STEP "
	stepB  = "STEP b: END_STEP "
	stepC  = "STEP c: END_STEP "
	tail   = " _O1 := _X1;"
	tailAB = " _O1 := _X1; _O2 := _X2;"
)

// same holds the statements of charts' texts against texts.
func same(t *testing.T, cases map[string]string) {
	t.Helper()
	for src, want := range cases {
		s, _, err := sfccore.Chart(parsed(t, src))
		if got := shown.Stmts(s); got != want || err != nil {
			t.Errorf("%q:\n%s\n%s\n%v", src, got, want, err)
		}
	}
}

// The chapter's examples.
func TestExamples(t *testing.T) {
	same(t, map[string]string{
		"INITIAL_STEP a: END_STEP STEP b: act(N); END_STEP TRANSITION FROM a TO b := go; END_TRANSITION ACTION act: n := n + 1; END_ACTION": "_F1 := (_X1 AND GO); IF _F1 THEN _X1 := FALSE; END_IF; IF _F1 THEN _X2 := TRUE; END_IF; _Q1 := FALSE; _Q1 := (_Q1 OR _X2); IF _Q1 THEN N := (N + 1); END_IF; _O1 := _X1; _O2 := _X2;",
		stepA + stepB + "TRANSITION FROM a TO b := x; END_TRANSITION TRANSITION FROM a TO a := y; END_TRANSITION":                           "_F1 := (_X1 AND X); _F2 := ((_X1 AND Y) AND (NOT _F1)); IF _F1 THEN _X1 := FALSE; END_IF; IF _F2 THEN _X1 := FALSE; END_IF; IF _F1 THEN _X2 := TRUE; END_IF; IF _F2 THEN _X1 := TRUE; END_IF;" + tailAB,
		stepA: "_O1 := _X1;",
	})
	_, _, err := sfccore.Chart(parsed(t, stepA+stepB+" TRANSITION FROM a TO c := x; END_TRANSITION"))
	if !errors.Is(err, api.ErrStep) {
		t.Error(err)
	}
}

// Several steps on a side, and transitions with a From step in common.
func TestTransitions(t *testing.T) {
	moves := func(src string) string {
		s, _, err := sfccore.Chart(parsed(t, stepA+stepB+stepC+src))
		if err != nil {
			t.Fatal(src, err)
		}
		return shown.Stmts(s)
	}
	trans := func(from, to string) string {
		return "TRANSITION FROM " + from + " TO " + to + " := go; END_TRANSITION "
	}
	for src, want := range map[string]string{
		trans("(a, c)", "b"): "_F1 := ((_X1 AND _X3) AND GO); IF _F1 THEN _X1 := FALSE; _X3 := FALSE; END_IF; IF _F1 THEN _X2 := TRUE; END_IF;",
		trans("(c, a)", "b"): "_F1 := ((_X3 AND _X1) AND GO); IF _F1 THEN _X3 := FALSE; _X1 := FALSE; END_IF; IF _F1 THEN _X2 := TRUE; END_IF;",
		trans("b", "(c, a)"): "_F1 := (_X2 AND GO); IF _F1 THEN _X2 := FALSE; END_IF; IF _F1 THEN _X3 := TRUE; _X1 := TRUE; END_IF;",
		trans("(a, b, c)", "(a, b, c)"): "_F1 := (((_X1 AND _X2) AND _X3) AND GO); IF _F1 THEN _X1 := FALSE; _X2 := FALSE; _X3 := FALSE; END_IF; " +
			"IF _F1 THEN _X1 := TRUE; _X2 := TRUE; _X3 := TRUE; END_IF;",
		// All that fire are left ahead of all that are come to.
		trans("a", "b") + trans("b", "a"): "_F1 := (_X1 AND GO); _F2 := (_X2 AND GO); IF _F1 THEN _X1 := FALSE; END_IF; IF _F2 THEN _X2 := FALSE; END_IF; IF _F1 THEN _X2 := TRUE; END_IF; IF _F2 THEN _X1 := TRUE; END_IF;",
	} {
		if got := moves(src); got != want+" _O1 := _X1; _O2 := _X2; _O3 := _X3;" {
			t.Errorf("%q:\n%s\n%s", src, got, want)
		}
	}
	// Those ahead with one From step in common, and they alone, in their order, each once.
	got := moves(trans("(a, b)", "c") + trans("c", "a") + trans("b", "(a, c)") + trans("(c, b)", "a") + trans("a", "b") + trans("(b, a, c)", "b"))
	want := "_F1 := ((_X1 AND _X2) AND GO); _F2 := (_X3 AND GO); _F3 := ((_X2 AND GO) AND (NOT _F1)); " +
		"_F4 := (((((_X3 AND _X2) AND GO) AND (NOT _F1)) AND (NOT _F2)) AND (NOT _F3)); _F5 := ((_X1 AND GO) AND (NOT _F1)); " +
		"_F6 := ((((((((_X2 AND _X1) AND _X3) AND GO) AND (NOT _F1)) AND (NOT _F2)) AND (NOT _F3)) AND (NOT _F4)) AND (NOT _F5)); IF "
	if !strings.HasPrefix(got, want) {
		t.Errorf("%s\n%s", got, want)
	}
}

// Every qualifier, of an action and of a variable.
func TestQualifiers(t *testing.T) {
	for qual, want := range map[string]string{
		"N":          "_Q1 := FALSE; _Q1 := (_Q1 OR _X2);",
		"S":          "_Q1 := FALSE; IF _X2 THEN _S1 := TRUE; END_IF; _Q1 := (_Q1 OR _S1);",
		"R":          "_Q1 := FALSE; IF _X2 THEN  END_IF;",
		"P":          "_Q1 := FALSE; _Q1 := (_Q1 OR (_X2 AND (NOT _O2)));",
		"P1":         "_Q1 := FALSE; _Q1 := (_Q1 OR (_X2 AND (NOT _O2)));",
		"P0":         "_Q1 := FALSE; _Q1 := (_Q1 OR ((NOT _X2) AND _O2));",
		"L, T#5ns":   "_Q1 := FALSE; _D1(IN := _X2, PT := TIME#5''|); _Q1 := (_Q1 OR (_X2 AND (NOT _D1.Q)));",
		"D, T#0s":    "_Q1 := FALSE; _D1(IN := _X2, PT := TIME#0''|); _Q1 := (_Q1 OR _D1.Q);",
		"SD, T#1us":  "_Q1 := FALSE; IF _X2 THEN _B1 := TRUE; END_IF; _D1(IN := _B1, PT := TIME#1000''|); _Q1 := (_Q1 OR _D1.Q);",
		"DS, T#7ns":  "_Q1 := FALSE; _D1(IN := _X2, PT := TIME#7''|); IF _D1.Q THEN _S1 := TRUE; END_IF; _Q1 := (_Q1 OR _S1);",
		"SL, T#10ns": "_Q1 := FALSE; IF (_X2 AND (NOT _O2)) THEN _B1 := TRUE; END_IF; _D1(IN := _B1, PT := TIME#10''|); _Q1 := (_Q1 OR (_B1 AND (NOT _D1.Q)));",
	} {
		same(t, map[string]string{
			stepA + "STEP b: x(" + qual + "); END_STEP":                              want + " X := _Q1;" + tailAB,
			stepA + "STEP b: x(" + qual + "); END_STEP ACTION x: n := 1; END_ACTION": want + " IF _Q1 THEN N := 1; END_IF;" + tailAB,
		})
	}
}

// Several links to one target; R ends all that stays on, if something does.
func TestSeveralLinks(t *testing.T) {
	same(t, map[string]string{
		"INITIAL_STEP a: x(N); x(P); x(N); END_STEP":                 "_Q1 := FALSE; _Q1 := (_Q1 OR _X1); _Q1 := (_Q1 OR (_X1 AND (NOT _O1))); _Q1 := (_Q1 OR _X1); X := _Q1;" + tail,
		"INITIAL_STEP a: x(R); x(S); END_STEP":                       "_Q1 := FALSE; IF _X1 THEN _S1 := TRUE; END_IF; IF _X1 THEN _S1 := FALSE; END_IF; _Q1 := (_Q1 OR _S1); X := _Q1;" + tail,
		"INITIAL_STEP a: x(R); x(SD, T#1ns); x(R); END_STEP":         "_Q1 := FALSE; IF _X1 THEN _B2 := TRUE; END_IF; IF _X1 THEN _B2 := FALSE; END_IF; IF _X1 THEN _B2 := FALSE; END_IF; _D2(IN := _B2, PT := TIME#1''|); _Q1 := (_Q1 OR _D2.Q); X := _Q1;" + tail,
		"INITIAL_STEP a: x(R); x(N); x(L, T#1ns); END_STEP":          "_Q1 := FALSE; IF _X1 THEN  END_IF; _Q1 := (_Q1 OR _X1); _D3(IN := _X1, PT := TIME#1''|); _Q1 := (_Q1 OR (_X1 AND (NOT _D3.Q))); X := _Q1;" + tail,
		"INITIAL_STEP a: x(R); y(S); y(SD, T#1ns); END_STEP":         "_Q1 := FALSE; IF _X1 THEN  END_IF; X := _Q1; _Q2 := FALSE; IF _X1 THEN _S2 := TRUE; END_IF; IF _X1 THEN _B3 := TRUE; END_IF; _D3(IN := _B3, PT := TIME#1''|); _Q2 := (_Q2 OR _D3.Q); _Q2 := (_Q2 OR _S2); Y := _Q2;" + tail,
		"INITIAL_STEP a: x(DS, T#1ns); x(S); x(DS, T#2ns); END_STEP": "_Q1 := FALSE; IF _X1 THEN _S1 := TRUE; END_IF; _D1(IN := _X1, PT := TIME#1''|); IF _D1.Q THEN _S1 := TRUE; END_IF; _D3(IN := _X1, PT := TIME#2''|); IF _D3.Q THEN _S1 := TRUE; END_IF; _Q1 := (_Q1 OR _S1); X := _Q1;" + tail,
		"INITIAL_STEP a: x(SL, T#1ns); x(SD, T#2ns); END_STEP STEP b: x(R); x(SL, T#3ns); x(DS, T#4ns); END_STEP": "_Q1 := FALSE; IF (_X1 AND (NOT _O1)) THEN _B1 := TRUE; END_IF; IF _X1 THEN _B2 := TRUE; END_IF; IF (_X2 AND (NOT _O2)) THEN _B4 := TRUE; END_IF; " +
			"IF _X2 THEN _S1 := FALSE; _B1 := FALSE; _B2 := FALSE; _B4 := FALSE; END_IF; " +
			"_D1(IN := _B1, PT := TIME#1''|); _Q1 := (_Q1 OR (_B1 AND (NOT _D1.Q))); _D2(IN := _B2, PT := TIME#2''|); _Q1 := (_Q1 OR _D2.Q); _D4(IN := _B4, PT := TIME#3''|); _Q1 := (_Q1 OR (_B4 AND (NOT _D4.Q))); _D5(IN := _X2, PT := TIME#4''|); IF _D5.Q THEN _S1 := TRUE; END_IF; _Q1 := (_Q1 OR _S1); X := _Q1;" + tailAB,
	})
}

// Targets: actions in their order, linked or not, then the other names that links have.
func TestTargets(t *testing.T) {
	same(t, map[string]string{
		"INITIAL_STEP a: v(N); y(N); w(N); v(N); END_STEP ACTION x: n := 1; END_ACTION ACTION y: END_ACTION": "_Q1 := FALSE; IF _Q1 THEN N := 1; END_IF; _Q2 := FALSE; _Q2 := (_Q2 OR _X1); IF _Q2 THEN  END_IF; " +
			"_Q3 := FALSE; _Q3 := (_Q3 OR _X1); _Q3 := (_Q3 OR _X1); V := _Q3; _Q4 := FALSE; _Q4 := (_Q4 OR _X1); W := _Q4;" + tail,
		// A step's name is no target's, a target's no step's.
		"INITIAL_STEP a: a(N); END_STEP": "_Q1 := FALSE; _Q1 := (_Q1 OR _X1); A := _Q1;" + tail,
		"INITIAL_STEP a: b(N); END_STEP STEP b: END_STEP ACTION b: n := b.x; END_ACTION": "_Q1 := FALSE; _Q1 := (_Q1 OR _X1); IF _Q1 THEN N := _X2; END_IF;" + tailAB,
	})
}

// Steps' variables in conditions and bodies: read and set, in places and arguments, not in formal names.
func TestStepsVariables(t *testing.T) {
	timer := func(i string) string { return " _T" + i + "(IN := _X" + i + ", PT := TIME#9223372036854775807''|);" }
	only1, only2, both := " _O1 := _X1;"+timer("1")+" _O2 := _X2;", tailAB+timer("2"), " _O1 := _X1;"+timer("1")+" _O2 := _X2;"+timer("2")
	cond := func(c string) string { return stepA + stepB + "TRANSITION FROM a TO a := " + c + "; END_TRANSITION" }
	fires := func(c string) string {
		return "_F1 := (_X1 AND " + c + "); IF _F1 THEN _X1 := FALSE; END_IF; IF _F1 THEN _X1 := TRUE; END_IF;"
	}
	body := func(s string) string { return stepA + stepB + "ACTION x: " + s + " END_ACTION" }
	does := func(s string) string { return "_Q1 := FALSE; IF _Q1 THEN " + s + " END_IF;" }
	same(t, map[string]string{
		cond("b.x"):                           fires("_X2") + tailAB,
		cond("NOT b.X AND a.x"):               fires("((NOT _X2) AND _X1)") + tailAB,
		cond("a.t > T#1ns"):                   fires("(_T1.ET > TIME#1'')") + only1,
		cond("b.t > a.t"):                     fires("(_T2.ET > _T1.ET)") + both,
		cond("f(b.x, a := b.t, b := x[a.x])"): fires("F(_X2, A := _T2.ET, B := X[_X1])") + only2,
		// Other fields, other names, names without a field.
		cond("a.q OR c.x OR a OR x.t OR a.et"):                                                                             fires("((((A.Q OR C.X) OR A) OR X.T) OR A.ET)") + tailAB,
		body("a.x := b.x; b.t := a.t;"):                                                                                    does("_X1 := _X2; _T2.ET := _T1.ET;") + both,
		body("a(b.x, a := b.x, t := NOT b.x, x => a.x, b => x[b.x]); a := b; b[a.x] := 1;"):                                does("A(_X2, A := _X2, T := (NOT _X2)|X => _X1, B => X[_X2]); A := B; B[_X1] := 1;") + tailAB,
		body("IF a.x THEN n := b.x; ELSIF b.t > n THEN n := a.x; ELSE n := b.x; END_IF;"):                                  does("IF _X1 THEN N := _X2; ELSE IF (_T2.ET > N) THEN N := _X1; ELSE N := _X2; END_IF; END_IF;") + only2,
		body("CASE a.x OF 1: n := a.x; 2..3: n := b.t; ELSE n := a.t; END_CASE;"):                                          does("CASE _X1 OF 1..1: N := _X1; 2..3: N := _T2.ET; ELSE N := _T1.ET; END_CASE;") + both,
		body("FOR a := a.x TO b.x BY a.t DO n := a.x; EXIT; END_FOR;"):                                                     does("FOR A := _X1, _X2, _T1.ET DO N := _X1; EXIT; END_FOR;") + only1,
		body("{BOUND 3} WHILE a.x DO n := b.x; END_WHILE; {BOUND 4} REPEAT n := a.x; UNTIL b.t > n END_REPEAT; RETURN; ;"): does("{3} WHILE _X1 DO N := _X2; END_WHILE; {4} REPEAT N := _X1; UNTIL (_T2.ET > N) END_REPEAT; RETURN; ;") + only2,
	})
}

// Hidden variables, in their order.
func TestHiddenVariables(t *testing.T) {
	src := "STEP b: x(N); y(SD, T#1ns); END_STEP INITIAL_STEP a: x(S); v(L, T#1ns); w(SL, T#1ns); w(P); END_STEP STEP c: v(DS, T#1ns); v(R); v(D, T#1s); END_STEP " +
		"TRANSITION FROM a TO b := c.t > b.t; END_TRANSITION TRANSITION FROM b TO a := x; END_TRANSITION ACTION x: n := b.t; END_ACTION"
	bit, timer := api.Type{Kind: api.KBool}, api.Type{Block: "TON"}
	var want []api.Var
	add := func(class int, of api.Type, names ...string) {
		for _, name := range names {
			want = append(want, api.Var{Name: name, Class: class, Type: of})
		}
	}
	add(api.VarLocal, bit, "_X1", "_O1", "_X2", "_O2", "_X3", "_O3")
	want[2].Init = []api.Value{{Kind: api.KBool, Bits: 1}}
	add(api.VarTemp, bit, "_F1", "_F2")
	add(api.VarLocal, bit, "_B2")
	add(api.VarLocal, timer, "_D2", "_D4")
	add(api.VarLocal, bit, "_B5")
	add(api.VarLocal, timer, "_D5", "_D7", "_D9")
	add(api.VarTemp, bit, "_Q1") // the action X
	add(api.VarLocal, bit, "_S1")
	add(api.VarTemp, bit, "_Q2", "_Q3") // Y, V
	add(api.VarLocal, bit, "_S3")
	add(api.VarTemp, bit, "_Q4") // W
	add(api.VarLocal, timer, "_T1", "_T3")
	_, v, err := sfccore.Chart(parsed(t, src))
	if err != nil || !reflect.DeepEqual(v, want) {
		t.Errorf("%+v %v", v, err)
	}
	// No T is asked: no timer of a step.
	_, v, err = sfccore.Chart(parsed(t, "INITIAL_STEP t: END_STEP TRANSITION FROM t TO t := t.x AND t AND t.q AND u.t; END_TRANSITION"))
	if err != nil || len(v) != 3 || v[2].Name != "_F1" {
		t.Errorf("%+v %v", v, err)
	}
}

// Places: those of transitions, actions and first links alone, and those of conditions and bodies.
func TestPlaces(t *testing.T) {
	for src, want := range map[string]string{
		"INITIAL_STEP a: y(N); x(S); y(P); x(R); END_STEP TRANSITION FROM a TO a := b AND NOT a.x; END_TRANSITION ACTION x: n := a.t; IF c THEN ; END_IF; END_ACTION": "49> 0:_F1 := (0:_X1 0:AND (75:B 77:AND (81:NOT 85:_X1))); " +
			"0> IF 0:_F1 THEN 0> 0:_X1 := 0:FALSE; END_IF; 0> IF 0:_F1 THEN 0> 0:_X1 := 0:TRUE; END_IF; " +
			"0> 0:_Q1 := 0:FALSE; 0> IF 0:_X1 THEN 0> 0:_S1 := 0:TRUE; END_IF; 0> IF 0:_X1 THEN 0> 0:_S1 := 0:FALSE; END_IF; 0> 0:_Q1 := (0:_Q1 0:OR 0:_S1); 112> IF 0:_Q1 THEN 115> 115:N := 120:_T1.ET; 125> IF 128:C THEN 135> ; END_IF; END_IF; " +
			"0> 0:_Q2 := 0:FALSE; 0> 0:_Q2 := (0:_Q2 0:OR 0:_X1); 0> 0:_Q2 := (0:_Q2 0:OR (0:_X1 0:AND (0:NOT 0:_O1))); 16> 0:Y := 0:_Q2; " +
			"0> 0:_O1 := 0:_X1; 0> _T1(IN := 0:_X1, PT := 0:TIME#9223372036854775807''|);",
		"INITIAL_STEP a: y(SL, T#1ns); y(DS, T#2ns); END_STEP": "0> 0:_Q1 := 0:FALSE; 0> IF (0:_X1 0:AND (0:NOT 0:_O1)) THEN 0> 0:_B1 := 0:TRUE; END_IF; " +
			"0> _D1(IN := 0:_B1, PT := 0:TIME#1''|); 0> 0:_Q1 := (0:_Q1 0:OR (0:_B1 0:AND (0:NOT 0:_D1.Q))); 0> _D2(IN := 0:_X1, PT := 0:TIME#2''|); 0> IF 0:_D2.Q THEN 0> 0:_S1 := 0:TRUE; END_IF; 0> 0:_Q1 := (0:_Q1 0:OR 0:_S1); 16> 0:Y := 0:_Q1; 0> 0:_O1 := 0:_X1;",
	} {
		s, _, err := sfccore.Chart(parsed(t, src))
		if got := shown.Placed(s); got != want || err != nil {
			t.Errorf("%q:\n%s\n%s\n%v", src, got, want, err)
		}
	}
}

// ErrStep, of several faults the first; the sign ¦ is at its place, and no part of the text.
func TestFaults(t *testing.T) {
	for _, marked := range []string{
		"¦",
		"¦ ACTION x: END_ACTION TRANSITION FROM a TO b := c; END_TRANSITION",
		"STEP ¦a: END_STEP",
		"STEP ¦a: END_STEP STEP b: END_STEP",
		"ACTION x: END_ACTION STEP ¦b: END_STEP STEP a: END_STEP",
		"INITIAL_STEP a: END_STEP INITIAL_STEP ¦b: END_STEP",
		"STEP c: END_STEP INITIAL_STEP a: END_STEP STEP d: END_STEP INITIAL_STEP ¦b: END_STEP INITIAL_STEP e: END_STEP",
		stepA + stepB + "¦TRANSITION FROM a TO c := x; END_TRANSITION",
		stepA + stepB + "¦TRANSITION t FROM c TO a := x; END_TRANSITION",
		stepA + stepB + "¦TRANSITION FROM (a, b) TO (b, a, c) := x; END_TRANSITION",
		stepA + stepB + "¦TRANSITION FROM (a, c, b) TO a := x; END_TRANSITION",
		stepA + stepB + "TRANSITION FROM a TO b := x; END_TRANSITION ¦TRANSITION FROM a TO d := x; END_TRANSITION TRANSITION FROM c TO a := x; END_TRANSITION",
		// An action's and a variable's name is no step's.
		stepA + "¦TRANSITION FROM a TO b := x; END_TRANSITION ACTION b: END_ACTION",
		"INITIAL_STEP a: v(N); END_STEP ¦TRANSITION FROM v TO a := x; END_TRANSITION",
		// Steps' faults come ahead of transitions', wherever they stand.
		"TRANSITION FROM c TO d := x; END_TRANSITION INITIAL_STEP a: END_STEP INITIAL_STEP ¦b: END_STEP",
		"TRANSITION FROM c TO d := x; END_TRANSITION STEP ¦a: END_STEP",
	} {
		src := strings.Replace(marked, "¦", "", 1)
		s, v, err := sfccore.Chart(parsed(t, src))
		if want := (api.Fault{At: strings.Index(marked, "¦"), Why: api.ErrStep}); err != error(want) || !errors.Is(err, api.ErrStep) || len(s)+len(v) != 0 {
			t.Errorf("%q: %v, not %v", src, err, want)
		}
		var fault api.Fault
		if !errors.As(err, &fault) || errors.Is(err, api.ErrArg) {
			t.Errorf("%q: %v", src, err)
		}
	}
}

// What no text has: names that stand twice, a transition without steps on a side, other qualifiers, times below 0.
func TestByHand(t *testing.T) {
	name := func(s string) api.Expr { return api.Expr{Op: api.ExName, Name: s} }
	field := func(s, f string) api.Expr { return api.Expr{Op: api.ExField, Name: s, Field: f} }
	body := func(e api.Expr) []api.Stmt {
		return []api.Stmt{{Op: api.StSet, Exprs: []api.Expr{name("N"), e}}}
	}
	for want, c := range map[string]api.Chart{
		// A step's name is the first one's, of X and T too; the second one has its own variables and links.
		"_F1 := (_X1 AND _X1); IF _F1 THEN _X1 := FALSE; END_IF; IF _F1 THEN _X1 := TRUE; END_IF; _Q1 := FALSE; _Q1 := (_Q1 OR _X2); IF _Q1 THEN N := _T1.ET; END_IF; _O1 := _X1; _T1(IN := _X1, PT := TIME#9223372036854775807''|); _O2 := _X2;": {
			Steps:   []api.Step{{Name: "A", Initial: true}, {Name: "A", Links: []api.Link{{Name: "Y"}}}},
			Trans:   []api.Trans{{From: []string{"A"}, To: []string{"A"}, Cond: field("A", "X")}},
			Actions: []api.Action{{Name: "Y", Body: body(field("A", "T"))}},
		},
		// Of actions of one name the first one counts; the others' bodies are nowhere, and ask for nothing.
		"_Q1 := FALSE; _Q1 := (_Q1 OR _X1); IF _Q1 THEN N := A; END_IF; _Q2 := FALSE; IF _Q2 THEN N := B; END_IF; _O1 := _X1;": {
			Steps:   []api.Step{{Name: "A", Initial: true, Links: []api.Link{{Name: "X"}}}},
			Actions: []api.Action{{Name: "X", Body: body(name("A"))}, {Name: "Y", Body: body(name("B"))}, {Name: "X", Body: body(field("A", "T"))}},
		},
		// Without From steps the condition comes first.
		"_F1 := GO; _F2 := GO; IF _F1 THEN  END_IF; IF _F2 THEN  END_IF; IF _F1 THEN _X1 := TRUE; END_IF; IF _F2 THEN  END_IF; _O1 := _X1;": {
			Steps: []api.Step{{Name: "A", Initial: true}},
			Trans: []api.Trans{{To: []string{"A"}, Cond: name("GO")}, {Cond: name("GO")}},
		},
		// A step that stands twice in a side.
		"_F1 := ((_X1 AND _X1) AND GO); _F2 := (((_X1 AND _X1) AND GO) AND (NOT _F1)); IF _F1 THEN _X1 := FALSE; _X1 := FALSE; END_IF; IF _F2 THEN _X1 := FALSE; _X1 := FALSE; END_IF; IF _F1 THEN _X1 := TRUE; _X1 := TRUE; END_IF; IF _F2 THEN  END_IF; _O1 := _X1;": {
			Steps: []api.Step{{Name: "A", Initial: true}},
			Trans: []api.Trans{{From: []string{"A", "A"}, To: []string{"A", "A"}, Cond: name("GO")}, {From: []string{"A", "A"}, Cond: name("GO")}},
		},
		// Other qualifiers are as N; a time below 0 is 0.
		"_Q1 := FALSE; _Q1 := (_Q1 OR _X1); _Q1 := (_Q1 OR _X1); _Q1 := (_Q1 OR _X1); _D4(IN := _X1, PT := TIME#0''|); _Q1 := (_Q1 OR _D4.Q); _D5(IN := _X1, PT := TIME#0''|); _Q1 := (_Q1 OR _D5.Q); V := _Q1; _O1 := _X1;": {
			Steps: []api.Step{{Name: "A", Initial: true, Links: []api.Link{{Name: "V", Qual: "Q"}, {Name: "V"}, {Name: "V", Qual: "s", Time: 5}, {Name: "V", Qual: "D", Time: -1}, {Name: "V", Qual: "D", Time: -1 << 63}}}},
		},
	} {
		s, _, err := sfccore.Chart(c)
		if got := shown.Stmts(s); got != want || err != nil {
			t.Errorf("%s\n%s\n%v", got, want, err)
		}
		if !asModel(t, c) {
			t.Error(want)
		}
	}
	for _, c := range []api.Chart{
		{Trans: []api.Trans{{At: 7}}},
		{Steps: []api.Step{{At: 5}, {At: 6}}},
		{Steps: []api.Step{{At: 5, Initial: true}, {At: -6, Initial: true}}},
		{Steps: []api.Step{{At: 5, Initial: true}}, Trans: []api.Trans{{At: -8, From: []string{"", "A"}}}},
	} {
		_, _, err := sfccore.Chart(c)
		if !errors.Is(err, api.ErrStep) {
			t.Errorf("%+v: %v", c, err)
		}
	}
}

// As great as a text may be, and greater.
func TestGreat(t *testing.T) {
	src := "INITIAL_STEP s0: END_STEP "
	for i := 1; i < api.MaxSteps; i++ {
		n := strconv.Itoa(i)
		src += "STEP s" + n + ": " + strings.Repeat("x"+n+"(SL, T#1ns); x1(R); ", api.MaxLinks/2) + "END_STEP "
	}
	for i := range api.MaxTrans {
		src += "TRANSITION FROM (s0, s" + strconv.Itoa(1+i%31) + ") TO s3 := s5.t > s6.t; END_TRANSITION "
	}
	if !asModel(t, parsed(t, src)) {
		t.Error("a fault")
	}
	// Deep trees; many links of one target; many transitions that share no step.
	e := api.Expr{Op: api.ExField, Name: "S7", Field: "T"}
	s := api.Stmt{Op: api.StReturn}
	for range 1 << 16 {
		e = api.Expr{Op: api.OpNot, Kids: []api.Expr{e}}
		s = api.Stmt{Op: api.StIf, Body: []api.Stmt{s}}
	}
	var c api.Chart
	for i := range 20000 {
		name := "S" + strconv.Itoa(i)
		c.Steps = append(c.Steps, api.Step{Name: name, Initial: i == 9, Links: []api.Link{{Name: "X", Qual: "R"}, {Name: "Y", Qual: "S"}, {Name: name, Qual: "N"}}})
		c.Trans = append(c.Trans, api.Trans{From: []string{name}, To: []string{name}, Cond: api.Expr{Op: api.ExName, Name: "GO"}})
	}
	c.Trans[5].Cond = e
	c.Actions = []api.Action{{Name: "X", Body: []api.Stmt{s}}}
	l, v, err := sfccore.Chart(c)
	if err != nil || len(l) != 3*20000+(1+20000+1)+(1+20000+1+1)+3*20000+20000+1 || len(v) != 3*20000+20002+1+1 {
		t.Error(len(l), len(v), err)
	}
}
