package core_test

import (
	"strings"
	"testing"

	"relay/api"
	"relay/core"
	"relay/stdlib"
)

// The variables of the bodies that call: i 0, d 1, lv 2, h 3, sh 4, s 5, b 6, l 7, a 8 to 11, ta 12, 13, k 14, m 20, e 28.
const calling = "i : INT; d : DINT; lv : level; h : high; sh : short; s : STRING; b : BOOL; l : LREAL; a : ARRAY [1..4] OF INT; ta : ARRAY [0..1] OF level; k : TON; m : blk; e : bare; w : WORD; t : TIME; si : SINT; u : UINT;"

// Calls of the project's functions, by places and by names, with and without arguments.
func TestFunctionCalls(t *testing.T) {
	checkTyped(t, calling, []row{
		{"d := plain(1, i);", "D:DINT@T1 := PLAIN#0@5{1:INT=INT#1, 2:INT(0..100)=I:INT@T0}:DINT"},
		{"d := plain(b := 3, a := i);", "D:DINT@T1 := PLAIN#0@5{1:INT=I:INT@T0, 2:INT(0..100)=INT#3}:DINT"},
		{"d := plain(b := lv);", "D:DINT@T1 := PLAIN#0@5{1:INT=INT#0, 2:INT(0..100)=LV:INT@T2}:DINT"},
		{"d := plain();", "D:DINT@T1 := PLAIN#0@5{1:INT=INT#0, 2:INT(0..100)=INT#0}:DINT"},
		{"l := given();", "L:LREAL@T7 := GIVEN#1@8{1:USINT(3..9)=USINT#3, 2:INT=INT#5, 3:STRING[0..4 bytes]=STRING#xy, 4:STRING[0..254 bytes]=STRING#}:LREAL"},
		{"l := given(u := s, h := 5);", "L:LREAL@T7 := GIVEN#1@8{1:USINT(3..9)=USINT#5, 2:INT=INT#5, 3:STRING[0..4 bytes]=STRING#xy, 4:STRING[0..254 bytes]=S:STRING@T5}:LREAL"},
		{"i := none();", "I:INT@T0 := NONE#3@18{}:INT"},
		{"d := none() + d;", "D:DINT@T1 := (TO DINT(NONE#3@18{}:INT) + D:DINT@T1):DINT"},
		{"d := plain(none(), si);", "D:DINT@T1 := PLAIN#0@5{1:INT=NONE#3@18{}:INT, 2:INT(0..100)=TO INT(SI:SINT@T30)}:DINT"},
		{"l := plain(1 + 2, -3);", "L:LREAL@T7 := TO LREAL(PLAIN#0@5{1:INT=(INT#1 + INT#2):INT, 2:INT(0..100)=INT#-3}:DINT)"},
	})
	checkFaults(t, calling, []wrong{
		{"d := ^plain(1);", api.ErrCount}, {"d := ^plain(1, 2, 3);", api.ErrCount}, {"d := ^plain(1, b := 2);", api.ErrCount}, {"d := ^plain(a := 1, 2);", api.ErrCount}, {"d := ^plain(a := 1, 2, 3);", api.ErrCount},
		{"d := ^plain(a := 1, c := 2);", api.ErrUnknown}, {"d := ^plain(plain := 1);", api.ErrUnknown}, {"d := ^plain(a := 1, a := 2);", api.ErrCount}, {"d := ^plain(a := 1, a := 2, c := 3);", api.ErrCount}, {"d := ^plain(a := 1, c := 2, a := 3);", api.ErrUnknown},
		{"i := ^none(1);", api.ErrCount}, {"i := ^none(a := 1);", api.ErrUnknown},
		{"d := plain(^d, x);", api.ErrMust}, {"d := plain(b := x, a := ^d);", api.ErrMust}, {"d := plain(1, ^x);", api.ErrUnknown}, {"d := plain(^40000, 1);", api.ErrMust},
		{"i := ^plain(1, 1);", api.ErrMust}, {"i := ^plain(x);", api.ErrCount}, {"d := ^plain(c := x);", api.ErrUnknown},
		{"b := ^blk();", api.ErrPlace}, {"b := ^bare(x, a := 1);", api.ErrPlace}, {"b := ^p();", api.ErrPlace},
		{"b := ^k();", api.ErrFunction}, {"b := ^TON(TRUE);", api.ErrFunction}, {"b := ^foo(x);", api.ErrFunction}, {"b := ^red();", api.ErrFunction}, {"b := ^b();", api.ErrFunction},
	})
}

// A call's arguments that are not there have the call's place; all else keeps its own.
func TestCallsPlaces(t *testing.T) {
	got := placed(body(t, calling, "d := plain(b := i); b := refs(i := a[1], l := lv, s := sh); b := LT(IN2 := i, IN1 := d);"))
	want := "1:1:D:DINT@T1 := 6:PLAIN#0@5{0:1:INT=6:INT#0, 0:2:INT(0..100)=17:I:INT@T0}:DINT; " +
		"21:21:B:BOOL@T6 := 26:REFS#2@13{0:1:BOOL=26:BOOL#FALSE, 0:2:REF=0:&36:A[38:DINT#1]:INT@T8(1..4), 0:3:REF=0:&47:LV:INT@T2, 0:4:REF=0:&56:SH:STRING@T4}:BOOL; " +
		"61:61:B:BOOL@T6 := 66:LT#12(86:D:DINT@T1, 0:TO DINT(76:I:INT@T0)):BOOL"
	if got != want {
		t.Errorf("\n got %s\nwant %s", got, want)
	}
}

// A VarInOut's argument is a place that may be assigned, of just its type.
func TestReferences(t *testing.T) {
	checkTyped(t, calling, []row{
		{"b := refs(TRUE, i, lv, sh);", "B:BOOL@T6 := REFS#2@13{1:BOOL=BOOL#TRUE, 2:REF=&I:INT@T0, 3:REF=&LV:INT@T2, 4:REF=&SH:STRING@T4}:BOOL"},
		{"b := refs(s := sh, l := ta[i], i := a[a[1]]);", "B:BOOL@T6 := REFS#2@13{1:BOOL=BOOL#FALSE, 2:REF=&A[A[DINT#1]:INT@T8(1..4)]:INT@T8(1..4), 3:REF=&TA[I:INT@T0]:INT@T12(0..1), 4:REF=&SH:STRING@T4}:BOOL"},
	})
	checkFaults(t, calling, []wrong{
		{"b := ^refs();", api.ErrCount}, {"b := ^refs(i := i, l := lv);", api.ErrCount}, {"b := ^refs(i := d, l := lv);", api.ErrCount}, {"b := ^refs(i := i, l := lv, s := sh, i := i);", api.ErrCount}, {"b := ^refs(i := i, x := lv);", api.ErrUnknown},
		{"b := refs(b, ^5, lv, sh);", api.ErrPlace}, {"b := refs(b, ^-5, lv, sh);", api.ErrPlace}, {"b := refs(b, i ^+ 1, lv, sh);", api.ErrPlace}, {"b := refs(b, ^none(), lv, sh);", api.ErrPlace}, {"b := refs(b, ^red, lv, sh);", api.ErrPlace},
		{"b := refs(b, ^m.n, lv, sh);", api.ErrPlace}, {"b := refs(b, ^k, lv, sh);", api.ErrPlace}, {"b := refs(b, ^i[1], lv, sh);", api.ErrPlace}, {"b := refs(b, ^nope(), lv, sh);", api.ErrPlace},
		{"b := refs(b, ^x, lv, sh);", api.ErrUnknown}, {"b := refs(b, ^x.y, lv, sh);", api.ErrUnknown}, {"b := refs(b, ^a, lv, sh);", api.ErrMust}, {"b := refs(b, a[^x], lv, sh);", api.ErrUnknown},
		{"b := refs(b, ^d, lv, sh);", api.ErrMust}, {"b := refs(b, ^si, lv, sh);", api.ErrMust}, {"b := refs(b, ^lv, lv, sh);", api.ErrMust}, {"b := refs(b, i, ^i, sh);", api.ErrMust}, {"b := refs(b, i, ^a[1], sh);", api.ErrMust},
		{"b := refs(b, i, lv, ^s);", api.ErrMust}, {"b := refs(b, i, ^ta, x);", api.ErrMust}, {"b := refs(^i, x, lv, sh);", api.ErrMust}, {"b := refs(s := x, l := y, i := ^z);", api.ErrUnknown},
	})
	checkFaults(t, "VAR b : BOOL; i : INT; l2 : INT (0..99); l3 : INT (1..100); s5 : STRING[5]; sh : short; lv : level; END_VAR VAR_INPUT in : INT; END_VAR VAR CONSTANT c : INT; END_VAR VAR_EXTERNAL gc : INT; END_VAR", []wrong{
		{"b := refs(b, ^in, lv, sh);", api.ErrAssign}, {"b := refs(b, ^c, lv, sh);", api.ErrAssign}, {"b := refs(b, ^gc, lv, sh);", api.ErrAssign}, {"FOR i := 1 TO 2 DO b := refs(b, ^i, lv, sh); END_FOR;", api.ErrAssign},
		{"b := refs(b, i, ^l2, sh);", api.ErrMust}, {"b := refs(b, i, ^l3, sh);", api.ErrMust}, {"b := refs(b, i, lv, ^s5);", api.ErrMust}, {"b := refs(b, ^lv, in, sh);", api.ErrMust},
	})
}

// A STRING of no length is not one of the greatest length, as a type.
func TestReferencesOfTexts(t *testing.T) {
	src := "FUNCTION f : BOOL VAR_IN_OUT s : STRING; END_VAR END_FUNCTION PROGRAM p VAR s : STRING; z : STRING[254]; b : BOOL; END_VAR "
	p, bodies := parsed(t, src+"b := f(z); END_PROGRAM")
	checkFault(t, "z", p, bodies, 1, 8, api.ErrMust)
	p, bodies = parsed(t, src+"b := f(s); END_PROGRAM")
	if _, _, err := core.Check(p, bodies); err != nil {
		t.Error(err)
	}
}

// Calls of standard functions: by places, by names, with kinds that widen to one.
func TestStandardCalls(t *testing.T) {
	checkTyped(t, calling, []row{
		{"i := MAX(i, lv);", "I:INT@T0 := MAX#19(I:INT@T0, LV:INT@T2):INT"},
		{"i := LIMIT(MX := 5, IN := i, MN := lv);", "I:INT@T0 := LIMIT#20(LV:INT@T2, I:INT@T0, INT#5):INT"},
		{"b := LT(1, i, 3);", "B:BOOL@T6 := LT#12(INT#1, I:INT@T0, INT#3):BOOL"},
		{"d := ADD(i, d);", "D:DINT@T1 := ADD#1(TO DINT(I:INT@T0), D:DINT@T1):DINT"},
		{"d := ADD(d, i, si);", "D:DINT@T1 := ADD#1(D:DINT@T1, TO DINT(I:INT@T0), TO DINT(SI:SINT@T30)):DINT"},
		{"d := MIN(IN2 := u, IN1 := 5, IN3 := d);", "D:DINT@T1 := MIN#18(TO DINT(UINT#5), TO DINT(U:UINT@T31), D:DINT@T1):DINT"},
		{"l := MUL(l, i);", "L:LREAL@T7 := MUL#3(L:LREAL@T7, TO LREAL(I:INT@T0)):LREAL"},
		{"d := SEL(b, 1, 2);", "D:DINT@T1 := SEL#21(B:BOOL@T6, DINT#1, DINT#2):DINT"},
		{"i := SEL(b, 1, i);", "I:INT@T0 := SEL#21(B:BOOL@T6, INT#1, I:INT@T0):INT"},
		{"d := MUX(i, 7, d);", "D:DINT@T1 := MUX#22(TO DINT(I:INT@T0), TO DINT(INT#7), D:DINT@T1):DINT"},
		{"d := MUX(i, d, d);", "D:DINT@T1 := MUX#22(I:INT@T0, D:DINT@T1, D:DINT@T1):DINT"},
		{"w := SHL(w, i);", "W:WORD@T28 := SHL#23(W:WORD@T28, I:INT@T0):WORD"},
		{"s := LEFT(s, 2);", "S:STRING@T5 := LEFT#28(S:STRING@T5, DINT#2):STRING 254 bytes"},
		{"t := ADD(t, T#1s);", "T:TIME@T29 := ADD#1(T:TIME@T29, TIME#1000000000):TIME"},
		{"d := INT_TO_DINT(i);", "D:DINT@T1 := INT_TO_DINT#68(I:INT@T0):DINT"},
		{"l := TO_LREAL(5);", "L:LREAL@T7 := TO_LREAL#82(DINT#5):LREAL"},
		{"d := LEN(s);", "D:DINT@T1 := TO DINT(LEN#27(S:STRING@T5):INT)"},
		{"i := ABS(-5 + i);", "I:INT@T0 := ABS#17((INT#-5 + I:INT@T0):INT):INT"},
	})
	checkFaults(t, calling, []wrong{
		{"i := ^foo();", api.ErrFunction}, {"i := ^foo(x, a := 1);", api.ErrFunction}, {"i := ^TO_FOO(i);", api.ErrFunction},
		{"i := ^ABS();", api.ErrCount}, {"i := ^ABS(i, x);", api.ErrCount}, {"i := ^ADD(i);", api.ErrCount}, {"i := ^SUB(i, i, i);", api.ErrCount}, {"i := ^ADD(1, 2, 3, 4, 5, 6, 7, 8, 9, 10, 11, 12, 13, 14, 15, 16, 17);", api.ErrCount},
		{"i := ^SUB(IN1 := i, i);", api.ErrCount}, {"i := ^SUB(i, XX := x);", api.ErrCount}, {"i := ^SUB(IN1 := i, IN1 := i);", api.ErrCount}, {"i := ^SUB(IN1 := i, IN3 := i);", api.ErrUnknown}, {"i := ^ADD(IN1 := i, IN3 := i);", api.ErrUnknown},
		{"i := ^ADD(IN1 := i, IN1 := i, XX := x);", api.ErrCount}, {"i := ^ADD(IN1 := i, XX := i, IN1 := x);", api.ErrUnknown},
		{"i := ADD(^x, i);", api.ErrUnknown}, {"i := SUB(IN2 := x, IN1 := ^y);", api.ErrUnknown}, {"i := ADD(40000, ^x);", api.ErrUnknown}, {"i := ADD(^40000, i);", api.ErrMust}, {"i := ADD(i, ^-40000, 1, 99999);", api.ErrMust},
		{"w := ^SHL(w, 3);", api.ErrTypes}, {"i := ^ADD(i, w);", api.ErrTypes}, {"t := ^MUL(t, 2);", api.ErrTypes}, {"i := ^SEL(1, 2, 3);", api.ErrTypes}, {"i := ^SINT_TO_INT(i);", api.ErrTypes}, {"d := ^ADD(u, i);", api.ErrTypes},
		{"i := ^SEL(b, 1, 2);", api.ErrMust}, {"i := ^LEN(5);", api.ErrTypes},
	})
	// AND and its like are no names in ST, but the other languages call them.
	p, bodies := parsed(t, program("b : BOOL; w : WORD;", "b := EQ(b, b); w := MOVE(w);"))
	for i, name := range []string{"AND", "MOD"} {
		call := &bodies[under][i].Exprs[1]
		call.Name = name
	}
	bodies[under][1].Exprs[1].Kids, bodies[under][1].Exprs[1].Names = bodies[under][0].Exprs[1].Kids, nil
	checkFault(t, "MOD", p, bodies, under, bodies[under][1].Exprs[1].At, api.ErrTypes)
	bodies[under][1].Exprs[1].Name = "XOR"
	bodies[under][1].Exprs[0].Name = "B"
	codes, _, err := core.Check(p, bodies)
	if err != nil || typed(codes[under].Body) != "B:BOOL@T0 := AND#6(B:BOOL@T0, B:BOOL@T0):BOOL; B:BOOL@T0 := XOR#8(B:BOOL@T0, B:BOOL@T0):BOOL" {
		t.Error(codes, err)
	}
}

// Every standard function can be called by the formal names of its arguments, turned round.
func TestStandardNames(t *testing.T) {
	for fn := 1; fn < stdlib.Count(); fn++ {
		name := stdlib.Name(fn)
		if name == "" || strings.Contains(" MOD AND OR XOR NOT ", " "+name+" ") {
			continue
		}
		found := false
		for _, text := range []string{"i i", "l l", "b", "i", "b i i", "i i i", "w i", "s i", "s i i", "s", "s s", "s s i", "s s i i", "l", "c"} {
			var kinds []api.Kind
			args := strings.Fields(text)
			for _, a := range args {
				kinds = append(kinds, map[string]api.Kind{"i": api.KInt, "l": api.KLint, "b": api.KBool, "w": api.KWord, "s": api.KString, "c": api.KLreal}[a])
			}
			n, k, e := stdlib.Find(name, kinds)
			if e != api.OK {
				continue
			}
			found = true
			formals := stdlib.Params(name, len(args))
			byName, want := "", ""
			for i, a := range args {
				byName = formals[i] + " := " + a + ", " + byName
				want += ", " + strings.ToUpper(a) + ":" + kind(kinds[i]) + "@T" + map[string]string{"i": "0", "l": "1", "b": "2", "w": "3", "s": "4", "c": "5"}[a]
			}
			vars := "i : INT; l : LINT; b : BOOL; w : WORD; s : STRING; c : LREAL; r : " + kind(k) + ";"
			got := typed(soleBody(t, vars, "r := "+name+"("+strings.TrimSuffix(byName, ", ")+");"))
			if !strings.HasPrefix(got, "R:"+kind(k)+"@T6 := "+name+"#"+itoa(n)+"("+want[2:]+"):"+kind(k)) || fn != n {
				t.Error(name, got)
			}
		}
		if !found {
			t.Error(name)
		}
	}
}

// A function of the project stands ahead of a standard one of its name.
func TestOwnAheadOfStandard(t *testing.T) {
	p, bodies := parsed(t, "FUNCTION max : INT VAR_INPUT a : INT; END_VAR END_FUNCTION FUNCTION_BLOCK min END_FUNCTION_BLOCK PROGRAM p VAR i : INT; END_VAR i := MAX(i); END_PROGRAM")
	codes, _, err := core.Check(p, bodies)
	if err != nil || typed(codes[2].Body) != "I:INT@T0 := MAX#0@0{1:INT=I:INT@T0}:INT" {
		t.Error(codes, err)
	}
	bodies[2][0].Exprs[1].Name = "MIN"
	checkFault(t, "min", p, bodies, 2, 6, api.ErrPlace)
}

// Calls of instances: what is set ahead, the call, what is set behind.
func TestInstanceCalls(t *testing.T) {
	checkTyped(t, calling, []row{
		{"k();", "CALL K@T14 #-9"},
		{"e();", "CALL E@T28 #5"},
		{"k(b, t);", "K.IN:BOOL@T14 := B:BOOL@T6; K.PT:TIME@T15 := T:TIME@T29; CALL K@T14 #-9"},
		{"k(PT := t, IN := k.Q);", "K.IN:BOOL@T14 := K.Q:BOOL@T16; K.PT:TIME@T15 := T:TIME@T29; CALL K@T14 #-9"},
		{"k(PT := T#1s, Q => b, ET => t);", "K.PT:TIME@T15 := TIME#1000000000; CALL K@T14 #-9; B:BOOL@T6 := K.Q:BOOL@T16; T:TIME@T29 := K.ET:TIME@T17"},
		{"k(ET => t, Q => b, Q => b);", "CALL K@T14 #-9; T:TIME@T29 := K.ET:TIME@T17; B:BOOL@T6 := K.Q:BOOL@T16; B:BOOL@T6 := K.Q:BOOL@T16"},
		{"m(b, 5, sh, i);", "M.X:BOOL@T20 := B:BOOL@T6; M.N:INT@T21 := INT#5 0..100; M.S:STRING@T22 := SH:STRING@T4 4 bytes; M.R:REF@T23 := &I:INT@T0; CALL M@T20 #4"},
		{"m(r := a[i], n := si, q => lv, w => l);", "M.N:INT@T21 := TO INT(SI:SINT@T30) 0..100; M.R:REF@T23 := &A[I:INT@T0]:INT@T8(1..4); CALL M@T20 #4; LV:INT@T2 := TO INT(M.Q:SINT@T24) 0..100; L:LREAL@T7 := TO LREAL(M.W:DINT@T25)"},
		{"m(r := i, q => a[m.q]);", "M.R:REF@T23 := &I:INT@T0; CALL M@T20 #4; A[M.Q:SINT@T24]:INT@T8(1..4) := TO INT(M.Q:SINT@T24)"},
		{"IF b THEN e(); ELSE e(); e(); END_IF;", "IF B:BOOL@T6 {CALL E@T28 #5} {CALL E@T28 #5; CALL E@T28 #5}"},
	})
	checkFaults(t, calling, []wrong{
		{"^x();", api.ErrUnknown}, {"^x(y);", api.ErrUnknown}, {"^i();", api.ErrPlace}, {"^a(x);", api.ErrPlace}, {"^red();", api.ErrPlace}, {"^blk();", api.ErrUnknown}, {"^plain(1, 2);", api.ErrUnknown},
		{"^k(b);", api.ErrCount}, {"^k(b, t, t);", api.ErrCount}, {"^k(b, PT := t);", api.ErrCount}, {"^k(IN := b, IN := b);", api.ErrCount}, {"^k(XX := b);", api.ErrUnknown}, {"^k(Q := b);", api.ErrUnknown}, {"^k(M := b);", api.ErrUnknown}, {"^e(x);", api.ErrCount}, {"^e(x := 1);", api.ErrUnknown},
		{"^m();", api.ErrCount}, {"^m(x := b);", api.ErrCount}, {"^m(b, 5, sh);", api.ErrCount}, {"^m(q => i);", api.ErrCount}, {"^m(inner := 1, r := i);", api.ErrUnknown}, {"^m(q := 1, r := i);", api.ErrUnknown},
		{"k(PT := x, IN := ^i);", api.ErrMust}, {"k(IN := b, PT := ^5);", api.ErrMust}, {"m(r := ^5);", api.ErrPlace}, {"m(r := ^d);", api.ErrMust}, {"m(r := ^lv);", api.ErrMust}, {"m(r := ^x);", api.ErrUnknown}, {"m(r := i, x := ^i);", api.ErrMust}, {"m(n := ^d, r := x);", api.ErrMust},
		{"^k(XX => b);", api.ErrUnknown}, {"^k(IN => b);", api.ErrUnknown}, {"^k(M => b);", api.ErrUnknown}, {"^m(r := i, r => i);", api.ErrUnknown}, {"^m(r := i, inner => i);", api.ErrUnknown},
		{"k(Q => ^x);", api.ErrUnknown}, {"k(Q => ^i);", api.ErrMust}, {"k(Q => ^a);", api.ErrMust}, {"k(Q => ^k);", api.ErrPlace}, {"k(Q => ^red);", api.ErrPlace}, {"k(Q => ^k.IN);", api.ErrPlace}, {"k(Q => ^i[1]);", api.ErrPlace}, {"k(Q => b, ET => ^b);", api.ErrMust},
		{"m(r := i, w => ^i);", api.ErrMust}, {"m(r := i, q => ^u);", api.ErrMust}, {"m(r := i, q => a[^x]);", api.ErrUnknown}, {"k(Q => ^x, XX => b);", api.ErrUnknown}, {"k(IN := ^x, XX => b);", api.ErrUnknown},
	})
	checkFaults(t, "VAR k : TON; m : blk; i : INT; END_VAR VAR CONSTANT c : BOOL; END_VAR VAR_INPUT in : BOOL; END_VAR", []wrong{
		{"k(Q => ^c);", api.ErrAssign}, {"k(Q => ^in);", api.ErrAssign}, {"FOR i := 1 TO 2 DO m(r := ^i); END_FOR;", api.ErrAssign}, {"FOR i := 1 TO 2 DO k(Q => ^i); END_FOR;", api.ErrAssign},
	})
}

// All statements that a StCall becomes have its place, and so have its fields.
func TestInstanceCallsPlaces(t *testing.T) {
	got := placed(body(t, calling, "; m(r := a[1], q => i, n := 7);"))
	want := "1:EMPTY; 3:3:M.N:INT@T21 := 29:INT#7 0..100; 3:3:M.R:REF@T23 := 0:&10:A[12:DINT#1]:INT@T8(1..4); 3:CALL M@T20 #4; 3:21:I:INT@T0 := 0:TO INT(3:M.Q:SINT@T24)"
	if got != want {
		t.Errorf("\n got %s\nwant %s", got, want)
	}
}

// Each standard block can be called with all its inputs and outputs.
func TestStandardBlocks(t *testing.T) {
	for _, x := range []string{
		"SR 1 S1:BOOL R:BOOL > Q1:BOOL", "RS 2 S:BOOL R1:BOOL > Q1:BOOL", "R_TRIG 3 CLK:BOOL > Q:BOOL", "F_TRIG 4 CLK:BOOL > Q:BOOL",
		"CTU 5 CU:BOOL R:BOOL PV:INT > Q:BOOL CV:INT", "CTD 6 CD:BOOL LD:BOOL PV:INT > Q:BOOL CV:INT", "CTUD 7 CU:BOOL CD:BOOL R:BOOL LD:BOOL PV:INT > QU:BOOL QD:BOOL CV:INT",
		"TP 8 IN:BOOL PT:TIME > Q:BOOL ET:TIME", "TON 9 IN:BOOL PT:TIME > Q:BOOL ET:TIME", "TOF 10 IN:BOOL PT:TIME > Q:BOOL ET:TIME",
	} {
		words := strings.Fields(x)
		cells := map[string]string{"BOOL": "V:BOOL@T0", "INT": "N:INT@T1", "TIME": "Z:TIME@T2"}
		args, behind, at := "", "", 3
		before := ""
		for i, f := range words[2:] {
			name, k, isFormal := strings.Cut(f, ":")
			if !isFormal {
				continue
			}
			v, _, _ := strings.Cut(cells[k], ":")
			field := "B." + name + ":" + k + "@T" + itoa(at)
			at++
			if strings.Contains(strings.Join(words[2:i+2], " "), ">") {
				args += name + " => " + v + ", "
				behind += "; " + cells[k] + " := " + field
			} else {
				args += name + " := " + v + ", "
				before += field + " := " + cells[k] + "; "
			}
		}
		vars := "v : BOOL; n : INT; z : TIME; b : " + words[0] + ";"
		got := typed(soleBody(t, vars, "b("+strings.TrimSuffix(args, ", ")+");"))
		if want := before + "CALL B@T3 #-" + words[1] + behind; got != want {
			t.Errorf("\n got %s\nwant %s", got, want)
		}
	}
}

// Who comes to call himself is refused behind all else, over functions and instances, in the order of the POUs.
func TestRings(t *testing.T) {
	for _, x := range []struct {
		src string
		pou int
	}{
		{"FUNCTION f : INT f := f(); END_FUNCTION", 0},
		{"FUNCTION f : INT IF FALSE THEN f := 1 + f(); END_IF; END_FUNCTION", 0},
		{"FUNCTION f : INT f := g(); END_FUNCTION FUNCTION g : INT g := 1; END_FUNCTION", -1},
		{"PROGRAM p VAR i : INT; END_VAR i := f(); END_PROGRAM FUNCTION f : INT f := g(); END_FUNCTION FUNCTION g : INT g := f(); END_FUNCTION", 1},
		{"FUNCTION a : INT a := b(); END_FUNCTION FUNCTION b : INT b := c() + d(); END_FUNCTION FUNCTION c : INT c := d(); END_FUNCTION FUNCTION d : INT d := b(); END_FUNCTION", 1},
		{"FUNCTION a : INT a := b() + b(); END_FUNCTION FUNCTION b : INT b := c(); END_FUNCTION FUNCTION c : INT c := 1; END_FUNCTION FUNCTION d : INT d := a() + b() + c(); END_FUNCTION", -1},
		{"FUNCTION f : INT VAR_INPUT x : INT; END_VAR f := MAX(1, f(x)); END_FUNCTION", 0},
		{"FUNCTION f : INT VAR a : ARRAY [1..2] OF INT; END_VAR a[f()] := 1; END_FUNCTION", 0},
		{"FUNCTION f : INT CASE f() OF 1: ; END_CASE; END_FUNCTION", 0},
		{"FUNCTION f : INT {BOUND 1} REPEAT UNTIL f() = 1 END_REPEAT; END_FUNCTION", 0},
		{"FUNCTION f : INT VAR_INPUT x : INT; END_VAR f := 1; END_FUNCTION PROGRAM p VAR i : INT; END_VAR i := f(f(f(1))); END_PROGRAM", -1},
		{"FUNCTION_BLOCK a VAR i : INT; END_VAR i := f(); END_FUNCTION_BLOCK FUNCTION_BLOCK b VAR x, y : a; END_VAR x(); y(); END_FUNCTION_BLOCK FUNCTION f : INT f := 1; END_FUNCTION", -1},
	} {
		p, bodies := parsed(t, x.src)
		if x.pou < 0 {
			if _, _, err := core.Check(p, bodies); err != nil {
				t.Error(x.src, err)
			}
			continue
		}
		checkFault(t, x.src, p, bodies, x.pou, p.Pous[x.pou].At, api.ErrCalls)
	}
	// A fault of a later POU's statements stands ahead.
	p, bodies := parsed(t, "FUNCTION f : INT f := f(); END_FUNCTION PROGRAM p x := 1; END_PROGRAM")
	checkFault(t, "later", p, bodies, 1, 1, api.ErrUnknown)
}
