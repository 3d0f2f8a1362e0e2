package ilcore_test

import (
	"errors"
	"math/rand"
	"reflect"
	"strings"
	"testing"

	"relay/api"
	"relay/ilcore"
	"relay/shown"
	"relay/st"
)

// lines is a list with "; " between its instructions as a text with lines.
func lines(src string) string { return strings.ReplaceAll(src, "; ", "\n") }

// accVar is the hidden variable, if it is there.
func accVar(is bool) []api.Var {
	if !is {
		return nil
	}
	return []api.Var{{Name: "_ACC", Class: api.VarTemp, Type: api.Type{Kind: api.KBool}}}
}

// P12.1: the chapter's examples, and every instruction, with and without N, C and a bracket.
func TestTrees(t *testing.T) {
	for src, want := range map[string]string{
		"":                            "",
		"LD a":                        "",
		"LD a; LD b; NOT; ABS; LD c":  "",
		"LD a; ADD b; ST c":           "C := (A + B);",
		"LD a; AND( b; OR c; ); ST d": "D := (A AND (B OR C));",
		"LDN a; ST b; ST c":           "B := (NOT A); C := B;",
		"LD a; S b; ST c":             "_ACC := A; IF _ACC THEN B := TRUE; END_IF; C := _ACC;",
		"LD a; JMPC l; LD 1; ST n; l: LD 2; ST m": "_ACC := A; JMP L IF _ACC; N := 1; L: M := 2;",
		"LD a; MAX b, 3; ST c":                    "C := MAX(A, B, 3);",
		// Loading and storing.
		"LD x[i]; ST y[j]; ST c":      "Y[J] := X[I]; C := Y[J];",
		"LD t.q; ST u.in":             "U.IN := T.Q;",
		"LD -5; ST a; LDN TRUE; ST b": "A := (-5); B := (NOT TRUE);",
		"LD a; STN b; ST c":           "B := (NOT A); C := (NOT B);",
		"LD a; STN b; STN c; ST d":    "B := (NOT A); C := (NOT (NOT B)); D := (NOT C);",
		"LD a; LD b; ST c":            "C := B;",
		// Operations.
		"LD a; AND b; OR c; XOR d; ST e":                       "E := (((A AND B) OR C) XOR D);",
		"LD a; ANDN b; ORN c; XORN d; ST e":                    "E := (((A AND (NOT B)) OR (NOT C)) XOR (NOT D));",
		"LD a; & b; ST c":                                      "C := (A AND B);",
		"LD a; ADD 1; SUB 2; MUL 3; DIV 4; MOD 5; ST b":        "B := (((((A + 1) - 2) * 3) / 4) MOD 5);",
		"LD a; GT b; ST c; LD a; GE b; ST c; LD a; EQ b; ST c": "C := (A > B); C := (A >= B); C := (A = B);",
		"LD a; NE b; ST c; LD a; LE b; ST c; LD a; LT b; ST c": "C := (A <> B); C := (A <= B); C := (A < B);",
		"LD a; NOT; NOT; ST b":                                 "B := (NOT (NOT A));",
		// Brackets: with an operand and without one, turned, within one another.
		"LD a; AND(; LD b; ); ST c":                                    "C := (A AND B);",
		"LD a; AND(; LDN b; OR c; ); ST d":                             "D := (A AND ((NOT B) OR C));",
		"LD a; ANDN( b; OR c; ); ST d":                                 "D := (A AND (NOT (B OR C)));",
		"LD a; ORN( b; ); XORN(; LD c; ); ST d":                        "D := ((A OR (NOT B)) XOR (NOT C));",
		"LD a; ADD( b; MUL( c; SUB( d; ); ); ); ST e":                  "E := (A + (B * (C - D)));",
		"LD a; DIV( b; MOD c; ); GT( d; ADD e; ); ST f":                "F := ((A / (B MOD C)) > (D + E));",
		"LD a; AND( b; LD c; ); ST d":                                  "D := (A AND C);",
		"LD a; AND( b; NOT; MAX 3; ); ST d":                            "D := (A AND MAX((NOT B), 3));",
		"LD a; GE( b; ); LT( c; ); LE( d; ); EQ( e; ); NE( f; ); ST g": "G := (((((A >= B) < C) <= D) = E) <> F);",
		"LD a; MUL( b; ); SUB( c; ); XOR( d; ); OR( e; ); ST f":        "F := ((((A * B) - C) XOR D) OR E);",
		// Functions.
		"LD a; ABS; ST b":                     "B := ABS(A);",
		"LD a; SEL x[i], t.q, -5; ST b":       "B := SEL(A, X[I], T.Q, (-5));",
		"LD a; ADD b; LIMIT 1, 2; SQRT; ST c": "C := SQRT(LIMIT((A + B), 1, 2));",
		// Set and reset; _ACC is kept anew each time.
		"LD a; R b":                   "_ACC := A; IF _ACC THEN B := FALSE; END_IF;",
		"LDN a; AND c; S x[i]; R t.q": "_ACC := ((NOT A) AND C); IF _ACC THEN X[I] := TRUE; END_IF; _ACC := _ACC; IF _ACC THEN T.Q := FALSE; END_IF;",
		"LD a; ST b; S c; NOT; ST d":  "B := A; _ACC := B; IF _ACC THEN C := TRUE; END_IF; D := (NOT _ACC);",
		// Jumps, calls and returns.
		"JMP l; l: LD a; ST b":    "JMP L; L: B := A;",
		"LD a; JMP l; l:":         "JMP L; L:",
		"LD a; JMPCN l; ST b; l:": "_ACC := A; JMP L IF (NOT _ACC); B := _ACC; L:",
		"CAL t":                   "T(|);",
		"CAL t(); RET":            "T(|); RETURN;",
		"LD a; CAL t(b, IN := x[i], Q => c, ET => y[j]); RET": "T(B, IN := X[I]|Q => C, ET => Y[J]); RETURN;",
		"LD a; CALC t(IN := b); ST c":                         "_ACC := A; IF _ACC THEN T(IN := B|); END_IF; C := _ACC;",
		"LD a; CALCN t(Q => b); RETC":                         "_ACC := A; IF (NOT _ACC) THEN T(|Q => B); END_IF; _ACC := _ACC; IF _ACC THEN RETURN; END_IF;",
		"LD a; RETCN; ANDN b; ST c":                           "_ACC := A; IF (NOT _ACC) THEN RETURN; END_IF; C := (_ACC AND (NOT B));",
		// Labels, alone and ahead of an instruction.
		"l:":                              "L:",
		"l1:; l2: CAL t; l3:; LD a; ST b": "L1: L2: T(|); L3: B := A;",
		"LD a; l: LD b; ST c":             "L: C := B;",
	} {
		s, v, err := ilcore.Trees(parsed(t, lines(src)))
		if got := shown.Stmts(s); err != nil || got != want || !reflect.DeepEqual(v, accVar(strings.Contains(want, "_ACC"))) {
			t.Errorf("%q: %s, not %s; %v %v", src, got, want, v, err)
		}
	}
	s, _, _ := ilcore.Trees(parsed(t, "LD a\nAND( b\nOR c\n)\nST d"))
	if got := st.Print(s); got != "D := A AND (B OR C);\n" {
		t.Error(got)
	}
}

// What is made has its instruction's place, operands and places keep theirs.
func TestPlaces(t *testing.T) {
	for src, want := range map[string]string{
		" LD a; ADD b; ST c":                       "12> 15:C := (4:A 6:+ 10:B);",
		" LDN a; ANDN b; STN c; ST d":              "14> 18:C := (14:NOT ((1:NOT 5:A) 7:AND (7:NOT 12:B))); 20> 23:D := (14:NOT 18:C);",
		" LD a; ORN( b; NOT; ); ST c":              "19> 22:C := (4:A 17:OR (17:NOT (13:NOT 11:B)));",
		" LD a; MAX b, 3; ST c":                    "15> 18:C := 6:MAX(4:A, 10:B, 13:3);",
		" LD a; S b; ST c":                         "6> 6:_ACC := 4:A; 6> IF 6:_ACC THEN 6> 8:B := 6:TRUE; END_IF; 10> 13:C := 6:_ACC;",
		" LD a; R b[i]":                            "6> 6:_ACC := 4:A; 6> IF 6:_ACC THEN 6> 8:B[10:I] := 6:FALSE; END_IF;",
		" LD a; JMPCN l; JMP l; l : RET":           "6> 6:_ACC := 4:A; 6> JMP L IF (6:NOT 6:_ACC); 14> JMP L; 20> L: 20> RETURN;",
		" LD a; CALC t(b, Q => c); CAL t(IN := d)": "6> 6:_ACC := 4:A; 6> IF 6:_ACC THEN 6> T(13:B|Q => 21:C); END_IF; 24> T(IN := 36:D|);",
		" LD a; RETCN":                             "6> 6:_ACC := 4:A; 6> IF (6:NOT 6:_ACC) THEN 6> RETURN; END_IF;",
	} {
		s, _, err := ilcore.Trees(parsed(t, lines(src)))
		if got := shown.Placed(s); err != nil || got != want {
			t.Errorf("%q: %s, not %s; %v", src, got, want, err)
		}
	}
}

// The first fault, at its place: the sign ¦ stands there, and is no part of the text.
func TestFaults(t *testing.T) {
	faults := func(why api.Errno, list ...string) {
		for _, marked := range list {
			marked = lines(marked)
			s, v, err := ilcore.Trees(parsed(t, strings.Replace(marked, "¦", "", 1)))
			if want := (api.Fault{At: strings.Index(marked, "¦"), Why: why}); err != error(want) || !errors.Is(err, why) || len(s)+len(v) != 0 {
				t.Errorf("%q: %v, not %v", marked, err, want)
			}
		}
	}
	// Nothing in the accumulator: at first, behind a label, in a bracket without an operand, behind JMP, CAL and RET.
	wants := "AND b|ANDN b|& b|OR b|ORN b|XOR b|XORN b|ADD b|SUB b|MUL b|DIV b|MOD b|GT b|GE b|EQ b|NE b|LE b|LT b|AND( b|ANDN(|ORN( b|XOR(|ADD(|LT( b|NOT|ABS|MAX b, 3"
	for _, w := range strings.Split(wants, "|") {
		faults(api.ErrAcc, "¦"+w, "LD a; JMP l; ¦"+w, "CAL t; ¦"+w, "LD a; CAL t(); ¦"+w, "LD a; RET; ¦"+w, "LD a; l:; ¦"+w, "LD a; ¦l: "+w, "LD a; AND(; ¦"+w)
	}
	outside := "ST b|STN b|S b|R b|JMPC l|JMPCN l|CALC t|CALCN t(a)|RETC|RETCN"
	for _, w := range strings.Split(outside, "|") {
		faults(api.ErrAcc, "¦"+w, "LD a; JMP l; ¦"+w, "CAL t; ¦"+w, "LD a; CAL t(); ¦"+w, "LD a; RET; ¦"+w, "LD a; l:; ¦"+w, "LD a; ¦l: "+w)
	}
	// In brackets they may not stand, whatever is in the accumulator; nor may a label.
	for _, w := range strings.Split(outside+"|JMP l|CAL t|CAL t(a)|RET|l:|l: LD b|l: )|l: ADD b", "|") {
		faults(api.ErrBrace, "LD a; AND( b; ¦"+w, "LD a; AND(; ¦"+w, "LD a; ADD( b; MUL(; LD c; ); ¦"+w)
	}
	faults(api.ErrAcc, "LD a; AND(; ¦)", "LD a; AND( b; OR(; ¦)", "LD a; AND( b; ); ST c; RET; ¦NOT", "¦ADD b", "CAL t; ¦ST x")
	faults(api.ErrBrace, "¦)", "LD a; ¦)", "LD a; AND( b; ); ¦)", "¦l: )", "LD a; AND( b; ¦ST c")
	// At the end: the instruction that opened the topmost bracket.
	faults(api.ErrBrace, "LD a; ¦AND( b", "LD a; ¦AND(", "LD a; AND( b; ¦OR( c; NOT", "LD a; ¦AND( b; OR( c; ); ADD d", "LD a; ST b; l: LD c; ¦ORN(; LD d")
	// Of several the first.
	faults(api.ErrAcc, "¦ST a; )", "LD a; AND(; ¦OR b; ST c", "¦AND( b; ST c")
	faults(api.ErrBrace, "¦); ST a", "LD a; AND( b; ¦l: ADD c; )")
}

// asModel holds what is answered against the model, places and all; it tells whether there was no fault.
func asModel(t *testing.T, l []api.IlInstr) bool {
	t.Helper()
	s, v, err := ilcore.Trees(l)
	want, kept, fault := treesModel(l)
	if got := shown.Placed(s); got != want || err != fault || !reflect.DeepEqual(v, accVar(kept)) {
		t.Fatalf("%+v:\n%s\n%s\n%v %v %v", l, got, want, v, err, fault)
	}
	return err == nil
}

// All lists of up to three lines out of these.
func TestAllSmallLists(t *testing.T) {
	some := strings.Split("LD a|LDN x[i]|ST b|STN x[i]|S b|R b|AND c|ANDN c|SUB 1|AND(|ORN( b|ADD( 2|NOT|)|JMP l|JMPC l|JMPCN l|CAL t|CALC t(a, Q => b)|CALCN t|RET|RETC|RETCN|MAX b, 3|ABS|l:|l: LD a|l: ST b|l: )|l: JMP l|l: AND( b", "|")
	good := 0
	for _, a := range some {
		for _, b := range some {
			for _, c := range some {
				if asModel(t, parsed(t, a+"\n"+b+"\n"+c)) {
					good++
				}
			}
			asModel(t, parsed(t, "LD a\nAND( b\n"+a+"\n"+b+"\n)\nST c"))
			asModel(t, parsed(t, "LD a\n"+a+"\n"+b+"\n)\nST c"))
		}
		asModel(t, parsed(t, a))
	}
	if good < 2000 {
		t.Error(good)
	}
}

func TestListsByChance(t *testing.T) {
	good := 0
	for seed := range int64(6000) {
		if asModel(t, parsed(t, newMaker(seed).source(1+int(seed%40)))) {
			good++
		}
	}
	if good < 2000 || good > 5800 {
		t.Error(good)
	}
}

// Whatever instructions are, the call ends, and tells statements or a fault.
func TestByHand(t *testing.T) {
	r := rand.New(rand.NewSource(1))
	for seed := range int64(8000) {
		l := parsed(t, newMaker(seed).source(10))
		for range 1 + r.Intn(4) {
			shake(r, reflect.ValueOf(&l).Elem())
		}
		if s, v, err := ilcore.Trees(l); err != nil && len(s)+len(v) > 0 {
			t.Fatalf("%+v", l)
		}
	}
	for _, op := range strings.Fields("LD ST S R AND ADD NOT ) JMP CAL RET FN XYZ") {
		for bits := range 8 {
			in := api.IlInstr{Op: op, Not: bits&1 > 0, Cond: bits&2 > 0, Open: bits&4 > 0}
			ilcore.Trees([]api.IlInstr{in})
			ilcore.Trees([]api.IlInstr{{Op: "LD"}, in, in})
		}
	}
	if s, v, err := ilcore.Trees(nil); len(s)+len(v) > 0 || err != nil {
		t.Error(s, v, err)
	}
	if s, v, err := ilcore.Trees([]api.IlInstr{}); len(s)+len(v) > 0 || err != nil {
		t.Error(s, v, err)
	}
}
