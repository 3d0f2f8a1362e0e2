package st_test

import (
	"errors"
	"reflect"
	"strings"
	"testing"

	"relay/api"
	"relay/st"
)

// marked cuts the mark ¦ out of a text: there the fault must be told.
func marked(t *testing.T, s string) (string, int) {
	t.Helper()
	ahead, behind, ok := strings.Cut(s, "¦")
	if !ok {
		t.Fatal(s)
	}
	return ahead + behind, len(ahead)
}

func isFault(err error, at int, why api.Errno) bool {
	return err == error(api.Fault{At: at, Why: why}) && errors.Is(err, why)
}

func faults(t *testing.T, why api.Errno, list ...string) {
	t.Helper()
	for _, s := range list {
		src, at := marked(t, s)
		if l, err := st.Parse(src); len(l) != 0 || !isFault(err, at, why) {
			t.Errorf("%.300q: %v %v", s, l, err)
		}
	}
}

func exprFaults(t *testing.T, why api.Errno, list ...string) {
	t.Helper()
	for _, s := range list {
		src, at := marked(t, s)
		if e, err := st.Expr(src); !reflect.DeepEqual(e, api.Expr{}) || !isFault(err, at, why) {
			t.Errorf("%.300q: %v %v", s, e, err)
		}
	}
}

// P5.1: ErrToken, where words can't stand, and where they end too early.
func TestTokenFaults(t *testing.T) {
	faults(t, api.ErrToken,
		"a := ¦;", "a¦", "a ¦;", "a ¦b", "a :=¦", "a := b¦", "a := b ¦c;", "a ¦= b;", "a ¦: b;", "a := b ¦:= c;", "a := b ¦END_IF;", "¦5 := a;", "¦(a) := b;", "¦-a := b;", "¦%QX0.0 := a;", "a := ¦%IX0.0;", "¦:= a;", "¦INT := 5;", "a := ¦INT;", "¦)", "a := (b¦;", "a := b¦);", "a := (¦);", "a := (¦)", "¦END_IF;", "¦ELSE", "¦THEN", "¦UNTIL", "¦,", "a := b;¦:",
		"a[¦] := b;", "a[1 ¦:= b;", "a[1¦, 2] := b;", "a[1]¦[2] := b;", "a[1]¦.b := c;", "a.b¦.c := d;", "a.b¦[1] := d;", "a.¦5 := d;", "a.¦IF := d;", "a.¦", "a[1] ¦;", "a.b ¦;", "a[1]¦(b);", "a.b¦(c);", "a := b[1]¦[2];", "a := b.c¦.d;", "a := b[1]¦(c);", "a := b.c¦(d);", "a := 5¦(b);", "a := 5¦.b;", "a := 5¦[1];",
		"a := b +¦;", "a := b + ¦* c;", "a := ¦* b;", "a := ¦+ b;", "a := -¦;", "a := NOT¦;", "a := b ¦NOT c;", "a := b AND¦", "a := b & ¦& c;", "a := b = ¦= c;", "a := b < ¦> c;", "a := b ¦! c;", "a := b ¦| c;", "a := b ¦.. c;", "a := b MOD ¦MOD c;", "a := ¦MOD;", "a := b - ¦;",
		"t(¦", "t(¦,);", "t(a¦", "t(a ¦b);", "t(a,¦);", "t(a¦;", "t(a)¦", "t(a) ¦b := c;", "t() ¦:= a;", "t() ¦.q := a;", "t(a := ¦);", "t(a := b ¦:= c);", "t(a := b ¦=> c);", "t(a[1] ¦:= b);", "t(a.b ¦:= c);", "t(5 ¦:= b);", "t(5 ¦=> b);", "t(q => ¦5);", "t(q => ¦);", "t(q => ¦-a);", "t(q => ¦(a));", "t(q => a¦(b));", "t(q => a ¦+ b);", "t(q => a.b¦.c);", "t(q => a[1]¦[2]);", "t(a[1] ¦=> b);", "t(¦:= b);", "t(¦=> b);", "t(q => a ¦:= b);", "t(¦IF := b);",
		"a := f(q ¦=> b);", "a := f(b, q ¦=> c);", "t(f(q ¦=> b));", "t(a := f(q ¦=> b));", "a := f(¦,b);", "a := f(b¦;", "a := f(b,¦);", "a := f(b := ¦);", "a := f(b ¦c);", "a := f(b) ¦(c);", "a := NOT(b) ¦c",
		"IF¦", "IF ¦THEN", "IF a¦", "IF a ¦b", "IF a ¦;", "IF a THEN¦", "IF a THEN b¦", "IF a THEN b := 1;¦", "IF a THEN ¦5", "IF a THEN ¦END_CASE;", "IF a THEN END_IF¦", "IF a THEN END_IF ¦b := c;", "IF a THEN ELSIF¦", "IF a THEN ELSIF ¦THEN", "IF a THEN ELSIF b ¦ELSE", "IF a THEN ELSIF b THEN¦", "IF a THEN ELSE¦", "IF a THEN ELSE ¦ELSE END_IF;", "IF a THEN ELSE ¦ELSIF b THEN END_IF;", "IF a THEN ; ¦THEN", "IF a THEN ELSE ; ¦END_WHILE;", "IF a ¦:= b THEN", "IF a THEN EXIT ¦END_IF;", "IF a THEN END ¦;",
		"CASE¦", "CASE ¦OF", "CASE a¦", "CASE a ¦1:", "CASE a OF¦", "CASE a OF ¦b := 1;", "CASE a OF ¦;", "CASE a OF ¦b:", "CASE a OF 1¦", "CASE a OF 1 ¦;", "CASE a OF 1:¦", "CASE a OF 1..¦", "CASE a OF 1..¦:", "CASE a OF 1..2¦..3:", "CASE a OF 1,¦:", "CASE a OF 1,¦b:", "CASE a OF -¦b:", "CASE a OF -¦-1:", "CASE a OF -¦:", "CASE a OF ¦(1):", "CASE a OF 1¦+2:", "CASE a OF ¦INT#1:", "CASE a OF ¦TRUE:", "CASE a OF ¦1.5:", "CASE a OF ¦'a':", "CASE a OF 1..¦INT#2:", "CASE a OF -¦INT#2:", "CASE a OF 1 ¦:= 2;", "CASE a OF 1: b := 1; ¦ELSIF", "CASE a OF 1: ELSE¦", "CASE a OF 1: ELSE ¦2: END_CASE;", "CASE a OF ELSE ; ¦ELSE", "CASE a OF END_CASE¦", "CASE a OF END_CASE ¦b := 1;", "CASE a OF ¦END_IF;", "CASE a OF ¦WHILE b DO", "CASE a OF ¦{BOUND 3} WHILE", "CASE a OF ¦{X} WHILE", "CASE a OF ¦REPEAT",
		"CASE a OF ¦2147483649: END_CASE;", "CASE a OF -¦2147483649: END_CASE;", "CASE a OF 0..¦2147483649: END_CASE;", "CASE a OF 0, ¦18446744073709551615: END_CASE;", "CASE a OF -¦9223372036854775808: END_CASE;",
		"FOR¦", "FOR ¦5", "FOR i¦", "FOR i¦[1] := 1", "FOR i¦.a := 1", "FOR i ¦TO", "FOR i :=¦", "FOR i := ¦TO", "FOR i := 1¦", "FOR i := 1 ¦DO", "FOR i := 1 ¦BY 2", "FOR i := 1 TO¦", "FOR i := 1 TO ¦DO", "FOR i := 1 TO 2¦", "FOR i := 1 TO 2 ¦;", "FOR i := 1 TO 2 BY¦", "FOR i := 1 TO 2 BY ¦DO", "FOR i := 1 TO 2 BY 3 ¦BY", "FOR i := 1 TO 2 DO¦", "FOR i := 1 TO 2 DO ; ¦END_IF;", "FOR i := 1 TO 2 DO END_FOR¦", "FOR i := 1 TO 2 DO END_FOR ¦a", "FOR i := 1 TO 2 DO ¦ELSE",
		"EXIT¦", "EXIT ¦a;", "RETURN¦", "RETURN ¦5;", "; ; ¦5", "EXIT ¦EXIT;",
	)
	exprFaults(t, api.ErrToken,
		"¦", "a +¦", "a ¦b", "a ¦;", "a ¦:= b", "(a¦", "a¦)", "¦;", "NOT¦", "a[¦", "a[1¦", "f(¦", "f(a¦", "f(q ¦=> a)", "f(a := b¦", "f(a :=¦", "a.¦", "a.b¦.c", "a ¦NOT b", "5 ¦5", "¦{BOUND 3} a", "a ¦{BOUND 3}", "a ¦{x}", "- - -¦", "¦IF", "¦WHILE", "a < b ¦=> c", "a ¦.. b", "f(a)¦(b)", "¦%MW5",
	)
}

// P5.1: ErrBound; a bound that stands elsewhere is a word as any other.
func TestBoundFaults(t *testing.T) {
	faults(t, api.ErrBound,
		"¦WHILE a DO END_WHILE;", "¦REPEAT UNTIL a END_REPEAT;", "¦WHILE", "¦REPEAT", "; ¦WHILE", "a := 1; ¦WHILE a DO", "IF a THEN ¦REPEAT", "IF a THEN ELSE ¦WHILE", "CASE a OF 1: ¦WHILE", "FOR i := 1 TO 2 DO ¦WHILE", "{BOUND 3} WHILE a DO ¦WHILE b DO", "{BOUND 3} REPEAT ¦REPEAT", "{BOUND 3} WHILE a DO END_WHILE; ¦WHILE",
		"¦{BOUND 0} WHILE a DO END_WHILE;", "¦{x} a := 1;", "¦{BOUND 0} ..", "¦{} WHILE", "¦{BOUND} WHILE", "¦{BOUND 65537} WHILE", "¦{BOUND 100000} REPEAT", "¦{BOUND 18446744073709551617} WHILE", "¦{BOUND 03} WHILE", "¦{BOUND 00} WHILE", "¦{BOUND -3} WHILE", "¦{BOUND +3} WHILE", "¦{BOUND 1_0} WHILE", "¦{BOUND 16#3} WHILE", "¦{BOUND 3.0} WHILE", "¦{BOUND 3 4} WHILE", "¦{BOUND3} WHILE", "¦{BOUND a} WHILE", "¦{3} WHILE", "¦{LIMIT 3} WHILE", "¦{BOUND 3;} WHILE", "¦{ST} a := 1;", "IF a THEN ¦{x} WHILE", "CASE a OF 1: ¦{BOUND 0} REPEAT", "a := 1; ¦{BOUND 0}", "¦{x}", "¦{x} {BOUND 3} WHILE",
	)
	faults(t, api.ErrToken,
		"{BOUND 3} ¦a := 1;", "{BOUND 3} ¦IF a THEN", "{BOUND 3} ¦FOR", "{BOUND 3} ¦;", "{BOUND 3}¦", "{BOUND 3} ¦{BOUND 3} WHILE a DO END_WHILE;", "{BOUND 3} ¦END_IF", "{BOUND 3} ¦EXIT;",
		"a ¦{BOUND 3} := 1;", "a := ¦{BOUND 3} 1;", "a := 1 ¦{BOUND 3};", "IF ¦{BOUND 3} a THEN", "IF a ¦{BOUND 3} THEN", "{BOUND 3} WHILE ¦{BOUND 3} a DO", "t(¦{BOUND 3} a);", "CASE a OF 1 ¦{BOUND 3}:", "IF a THEN END_IF ¦{BOUND 3};", "a := ¦{BOUND 3} WHILE", "a := b ¦{BOUND 3} WHILE c DO END_WHILE;",
		"{BOUND 3} WHILE¦", "{BOUND 3} WHILE ¦DO", "{BOUND 3} WHILE a¦", "{BOUND 3} WHILE a ¦;", "{BOUND 3} WHILE a DO¦", "{BOUND 3} WHILE a DO ; ¦END_REPEAT;", "{BOUND 3} WHILE a DO END_WHILE¦", "{BOUND 3} WHILE a DO END_WHILE ¦a", "{BOUND 3} WHILE a DO ¦ELSE",
		"{BOUND 3} REPEAT¦", "{BOUND 3} REPEAT ¦END_REPEAT;", "{BOUND 3} REPEAT UNTIL¦", "{BOUND 3} REPEAT UNTIL ¦END_REPEAT;", "{BOUND 3} REPEAT UNTIL a¦", "{BOUND 3} REPEAT UNTIL a ¦;", "{BOUND 3} REPEAT UNTIL a END_REPEAT¦", "{BOUND 3} REPEAT UNTIL a END_REPEAT ¦b", "{BOUND 3} REPEAT ; UNTIL a ¦UNTIL", "{BOUND 3} REPEAT ¦DO",
	)
	for src, want := range map[string]int{"{BOUND 1}": 1, "{bound 65536}": 65536, "{ Bound \t 3\n}": 3, "{BOUND 10}": 10} {
		for _, loop := range []string{" WHILE a DO END_WHILE;", "(* x *)REPEAT UNTIL a END_REPEAT;"} {
			if l := parsed(t, src+loop); len(l) != 1 || l[0].Num != want || l[0].At != 0 {
				t.Error(src+loop, l)
			}
		}
	}
}

// P5.1, P5.2: lex's faults come first, wherever they are.
func TestScanFaults(t *testing.T) {
	for s, why := range map[string]api.Errno{"a := ; ¦#": api.ErrByte, "WHILE ¦12a": api.ErrNumber, "a ¦'b": api.ErrOpen, "¦(* a := 1;": api.ErrOpen, ") ¦abcdefghijklmnopqrstuvwxy": api.ErrName} {
		faults(t, why, s)
		exprFaults(t, why, s)
	}
	faults(t, api.ErrLong, "¦"+strings.Repeat(";", api.MaxSource+1), strings.Repeat(";", api.MaxTokens)+"¦;")
	if l := parsed(t, strings.Repeat(";", api.MaxTokens)); len(l) != api.MaxTokens || l[api.MaxTokens-1].At != api.MaxTokens-1 {
		t.Error(len(l))
	}
	for _, s := range []string{"", " \n", "(* a *)", "// a := ;"} {
		if l := parsed(t, s); len(l) != 0 {
			t.Error(s, l)
		}
		if e, err := st.Expr(s); !isFault(err, len(s), api.ErrToken) {
			t.Error(s, e, err)
		}
	}
	// Words end where it is said, not where they do.
	for _, end := range []int{-5, 0, 7, 1 << 40} {
		if l, err := st.Body(scanned(t, "a :="), end); len(l) != 0 || !isFault(err, end, api.ErrToken) {
			t.Error(l, err)
		}
		if e, n, err := st.One(nil, end); n != 0 || !reflect.DeepEqual(e, api.Expr{}) || !isFault(err, end, api.ErrToken) {
			t.Error(e, n, err)
		}
		if l, err := st.Body(nil, end); len(l) != 0 || err != nil {
			t.Error(l, err)
		}
	}
}
