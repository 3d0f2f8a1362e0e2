package meaning_test

import (
	"math/rand"
	"reflect"
	"slices"
	"strings"
	"testing"

	"relay/api"
	"relay/decl"
	"relay/il"
	"relay/ilcore"
	"relay/meaning"
	"relay/value"
)

// did is a body, what its variable n is ahead of it, and what it comes to.
type did struct {
	body         string
	n            int
	name         string
	want         int
	rules, fault int
}

func checkDid(t *testing.T, l []did) {
	t.Helper()
	for _, x := range l {
		p := of(t, x.body).set(t, "N", x.n)
		after, rules, fault := p.run(unbounded)
		if fault != x.fault || rules != x.rules || (fault != 0) != (after == nil) {
			t.Error(x.body, rules, fault)
			continue
		}
		if fault == 0 && x.name != "" {
			if got, _ := value.Number(after[p.at(x.name)]); got != x.want {
				t.Error(x.body, x.name, got)
			}
		}
		p.checkSteps(t, x.body)
	}
}

// checkSteps: with fewer rules than a run takes it stops there, and with as many it does not.
func (x *plant) checkSteps(t *testing.T, what string) {
	t.Helper()
	after, rules, fault := x.run(unbounded)
	for most := range rules {
		l, n, f := x.run(most)
		if l != nil || n != most || f != api.FaultSteps {
			t.Fatal(what, most, n, f)
		}
	}
	for _, most := range []int{rules, rules + 1, 1<<63 - 1} {
		if l, n, f := x.run(most); !reflect.DeepEqual(l, after) || n != rules || f != fault {
			t.Fatal(what, most, n, f)
		}
	}
	if l, n, f := x.run(-1); l != nil || n != 0 || f != api.FaultSteps {
		t.Fatal(what, n, f)
	}
}

// The chapter's examples.
func TestExamples(t *testing.T) {
	checkDid(t, []did{
		{"n := n + 1;", 32767, "", 0, 4, api.FaultOver}, {"n := n + 1;", 4, "N", 5, 4, 0},
		{"FOR i := 1 TO 3 DO n := n + 1; END_FOR;", 7, "I", 3, 15, 0}, {"FOR i := 1 TO 3 DO n := n + 1; END_FOR;", 7, "N", 10, 15, 0}, {"FOR n := 3 TO 1 DO i := 1; END_FOR;", 7, "N", 7, 1, 0},
		{"{BOUND 2} WHILE TRUE DO n := n + 1; END_WHILE;", 0, "", 0, 14, api.FaultLoop},
		{"a[5] := 1 / 0;", 0, "", 0, 5, api.FaultZero}, {"a[1 / 0] := 1;", 0, "", 0, 4, api.FaultZero},
	})
}

// How many rules expressions are, and what they come to.
func TestExpressions(t *testing.T) {
	checkDid(t, []did{
		{"", 0, "N", 0, 0, 0}, {";", 0, "N", 0, 1, 0}, {"i := 5;", 0, "I", 5, 2, 0}, {"i := n;", 6, "I", 6, 2, 0}, {"d := n;", -6, "D", -6, 3, 0}, {"d := -n;", 6, "D", -6, 4, 0}, {"i := -n;", -32768, "", 0, 3, api.FaultOver},
		{"i := a[1] + a[n];", 2, "I", 0, 6, 0}, {"i := a[n];", 0, "", 0, 3, api.FaultIndex}, {"i := a[n];", 5, "", 0, 3, api.FaultIndex}, {"i := a[n] + n / 0;", 5, "", 0, 4, api.FaultIndex}, {"a[n] := 7; i := a[4];", 4, "I", 7, 6, 0}, {"i := a[u];", 0, "", 0, 3, api.FaultIndex},
		{"i := n / i;", 1, "", 0, 4, api.FaultZero}, {"i := (n / 0) + (n * n);", 32767, "", 0, 5, api.FaultZero}, {"i := n * n + n / 0;", 32767, "", 0, 5, api.FaultOver}, {"b := n > 3 AND NOT b;", 4, "B", 1, 7, 0},
		{"i := LIMIT(1, n, 3);", 9, "I", 3, 5, 0}, {"i := MUX(n, 1, 2);", 2, "", 0, 5, api.FaultRange}, {"i := MAX(IN2 := n / 0, IN1 := n * n);", 32767, "", 0, 5, api.FaultOver}, {"i := ABS(n);", -32768, "", 0, 3, api.FaultOver}, {"n := TO_INT(d);", 5, "N", 0, 3, 0}, {"i := TO_INT('x');", 0, "", 0, 3, api.FaultConvert}, {"w := TO_WORD(n);", -1, "", 0, 3, api.FaultConvert},
		{"u := u - 1;", 0, "", 0, 4, api.FaultOver}, {"t := t + T#5ns * n;", 3, "T", 15, 7, 0},
	})
}

// Statements, one behind the other.
func TestStatements(t *testing.T) {
	checkDid(t, []did{
		{"i := 1; ; i := i + n;", 4, "I", 5, 7, 0}, {"RETURN; i := 1;", 0, "I", 0, 1, 0},
		{"IF n > 0 THEN i := 1; ELSE i := 2; i := 3; END_IF;", 1, "I", 1, 6, 0}, {"IF n > 0 THEN i := 1; ELSE i := 2; i := 3; END_IF;", 0, "I", 3, 8, 0}, {"IF n > 0 THEN i := 1; END_IF;", 0, "I", 0, 4, 0}, {"IF n > 0 THEN RETURN; END_IF; i := 1;", 1, "I", 0, 5, 0},
		{"CASE n OF 1, 3..5: i := 1; 4: i := 2; 7: ; ELSE i := 9; END_CASE;", 1, "I", 1, 4, 0}, {"CASE n OF 1, 3..5: i := 1; 4: i := 2; 7: ; ELSE i := 9; END_CASE;", 4, "I", 1, 4, 0}, {"CASE n OF 1, 3..5: i := 1; 4: i := 2; 7: ; ELSE i := 9; END_CASE;", 7, "I", 0, 3, 0},
		{"CASE n OF 1, 3..5: i := 1; 4: i := 2; 7: ; ELSE i := 9; END_CASE;", 6, "I", 9, 4, 0}, {"CASE n OF 1: ; END_CASE;", 6, "I", 0, 2, 0}, {"CASE n OF 6: RETURN; END_CASE; i := 1;", 6, "I", 0, 3, 0},
		{"FOR i := 1 TO 3 DO ; END_FOR;", 0, "I", 3, 6, 0}, {"FOR i := 5 TO 1 BY -2 DO n := n + i; END_FOR;", 0, "N", 9, 15, 0}, {"FOR i := 5 TO 2 BY -2 DO n := n + i; END_FOR;", 0, "I", 3, 10, 0}, {"FOR i := 1 TO 3 DO EXIT; END_FOR; n := i;", 0, "N", 1, 4, 0}, {"FOR i := 1 TO 3 DO RETURN; END_FOR; n := i;", 0, "N", 0, 2, 0},
		{"FOR i := 1 TO 2 DO FOR d := 1 TO 2 DO EXIT; END_FOR; n := n + 1; END_FOR;", 0, "N", 2, 14, 0}, {"FOR i := 1 TO 3 DO IF i = 2 THEN EXIT; END_IF; n := n + 1; END_FOR;", 0, "N", 1, 15, 0},
		{"{BOUND 5} WHILE n < 3 DO n := n + 1; END_WHILE;", 0, "N", 3, 28, 0}, {"{BOUND 3} WHILE n < 3 DO n := n + 1; END_WHILE;", 0, "N", 3, 28, 0}, {"{BOUND 2} WHILE n < 3 DO n := n + 1; END_WHILE;", 0, "", 0, 20, api.FaultLoop}, {"{BOUND 1} WHILE n < 3 DO n := n + 1; END_WHILE;", 3, "N", 3, 4, 0}, {"{BOUND 1} WHILE TRUE DO EXIT; END_WHILE;", 0, "", 0, 3, 0},
		{"{BOUND 1} WHILE TRUE DO RETURN; END_WHILE; i := 1;", 0, "I", 0, 3, 0}, {"{BOUND 9} WHILE n / 0 > 1 DO ; END_WHILE;", 0, "", 0, 5, api.FaultZero}, {"{BOUND 1} WHILE TRUE DO n := n / 0; END_WHILE;", 0, "", 0, 6, api.FaultZero},
		{"{BOUND 5} REPEAT n := n + 1; UNTIL n >= 3 END_REPEAT;", 0, "N", 3, 24, 0}, {"{BOUND 3} REPEAT n := n + 1; UNTIL n >= 3 END_REPEAT;", 0, "N", 3, 24, 0}, {"{BOUND 2} REPEAT n := n + 1; UNTIL n >= 3 END_REPEAT;", 0, "", 0, 17, api.FaultLoop}, {"{BOUND 2} REPEAT n := n + 1; UNTIL FALSE END_REPEAT;", 0, "", 0, 13, api.FaultLoop},
		{"{BOUND 1} REPEAT EXIT; UNTIL n / 0 = 1 END_REPEAT;", 0, "", 0, 2, 0}, {"{BOUND 1} REPEAT RETURN; UNTIL TRUE END_REPEAT; i := 1;", 0, "I", 0, 2, 0}, {"{BOUND 1} REPEAT UNTIL TRUE END_REPEAT;", 0, "", 0, 2, 0},
		{"{BOUND 2} REPEAT {BOUND 2} WHILE TRUE DO EXIT; END_WHILE; n := n + 1; UNTIL n = 2 END_REPEAT;", 0, "N", 2, 22, 0},
	})
}

// What is assigned must lie within bounds; the index plays its part last.
func TestAssignments(t *testing.T) {
	checkDid(t, []did{
		{"lv := n;", 100, "LV", 100, 2, 0}, {"lv := n;", 0, "LV", 0, 2, 0}, {"lv := n;", 101, "", 0, 2, api.FaultRange}, {"lv := n;", -1, "", 0, 2, api.FaultRange}, {"lv := n / 0;", 101, "", 0, 4, api.FaultZero},
		{"sh := 'abcd';", 0, "", 0, 2, 0}, {"sh := 'abcde';", 0, "", 0, 2, api.FaultText}, {"s := CONCAT('abc', 'de'); sh := s;", 0, "", 0, 6, api.FaultText},
		{"la[n] := 101;", 1, "", 0, 3, api.FaultRange}, {"la[n] := 101;", 3, "", 0, 3, api.FaultRange}, {"la[n] := 100;", 3, "", 0, 3, api.FaultIndex}, {"sa[n] := 'abcde';", 3, "", 0, 3, api.FaultText}, {"sa[n] := 'abcd';", 0, "", 0, 3, api.FaultIndex},
		{"a[n * n] := 1 / 0;", 32767, "", 0, 4, api.FaultOver}, {"a[n] := a[n];", 5, "", 0, 4, api.FaultIndex}, {"a[n] := 1 / 0;", 4, "", 0, 5, api.FaultZero},
		{"n := 2; a[n] := n; i := a[2];", 0, "I", 2, 8, 0}, {"a[bump(n)] := n; i := a[2];", 1, "I", 2, 15, 0},
	})
	for text, want := range map[string]int{"": 0, "a": 0, "ab": api.FaultText} {
		one := built(t, "PROGRAM p VAR s : STRING[1]; END_VAR s := '"+text+"'; END_PROGRAM CONFIGURATION c RESOURCE r ON x PROGRAM m : p; END_RESOURCE END_CONFIGURATION")
		if _, _, fault := one.run(unbounded); fault != want {
			t.Error(text, fault)
		}
	}
	long := of(t, "s := CONCAT(s, s);")
	long.mem[long.at("S")].Text = strings.Repeat("x", 127)
	if after, _, fault := long.run(unbounded); fault != 0 || len(after[long.at("S")].Text) != 254 {
		t.Error(fault)
	}
	long.mem[long.at("S")].Text = strings.Repeat("x", 128)
	if _, _, fault := long.run(unbounded); fault != api.FaultText {
		t.Error(fault)
	}
}

// Numbers that no int has lie in no range and in no array.
func TestGreatNumbers(t *testing.T) {
	for _, body := range []string{"a[u] := 1;", "i := a[u];"} {
		p := of(t, body)
		p.mem[p.at("U")].Bits = 1<<64 - 1
		if _, _, fault := p.run(unbounded); fault != api.FaultIndex {
			t.Error(body, fault)
		}
	}
	p := of(t, "CASE u OF 0..2147483648: i := 1; ELSE i := 2; END_CASE;")
	p.mem[p.at("U")].Bits = 1<<64 - 1
	if after, _, fault := p.run(unbounded); fault != 0 || after[p.at("I")].Bits != 2 {
		t.Error(fault)
	}
	wide := built(t, "PROGRAM p VAR u : ULINT; x : ULINT (0..9223372036854775807); END_VAR x := u; END_PROGRAM CONFIGURATION c RESOURCE r ON x PROGRAM m : p; END_RESOURCE END_CONFIGURATION")
	for bits, want := range map[uint64]int{1<<63 - 1: 0, 1 << 63: api.FaultRange, 1<<64 - 1: api.FaultRange} {
		wide.mem[0].Bits = bits
		if _, _, fault := wide.run(unbounded); fault != want {
			t.Error(bits, fault)
		}
	}
}

// Calls of the project's functions: all arguments are known ahead of the first that is set; the bounds are looked at in the order of the parameters.
func TestFunctionCalls(t *testing.T) {
	checkDid(t, []did{
		// The bodies: PLAIN's initial value (2) and assignment with a conversion (3); EARLY's two initial values (4), assignments (4), condition (4) and its RETURN (1) or assignment (2); BUMP's initial value (2), sum (4) and assignment (2).
		{"d := plain(n, 5);", 7, "D", 7, 9, 0}, {"d := plain(b := 5, a := n);", 7, "D", 7, 9, 0}, {"d := plain();", 7, "D", 0, 9, 0}, {"d := plain(n, n);", 101, "", 0, 4, api.FaultRange}, {"d := plain(n, n / 0);", 101, "", 0, 6, api.FaultZero}, {"d := plain(n / 0, 101);", 1, "", 0, 5, api.FaultZero},
		{"i := words('abcd', 'abcdefg', n);", 100, "I", 4, 10, 0}, {"i := words('abcde', 'abcdefg', n);", 101, "", 0, 5, api.FaultText}, {"i := words('abcd', '', n);", 101, "", 0, 5, api.FaultRange},
		{"i := early(n);", 1, "I", 3, 16, 0}, {"i := early(n);", 0, "I", -1, 17, 0}, {"i := early(n); i := early(n);", 1, "I", 3, 32, 0},
		{"d := plain(TO_INT(plain(TO_INT(plain(n, 1)), 1)), 1);", 4, "D", 4, 25, 0}, {"d := plain(3, 1) + plain(4, 1);", 0, "D", 7, 18, 0},
		{"i := bump(n);", 5, "I", 6, 11, 0}, {"i := bump(n);", 5, "N", 6, 11, 0}, {"i := bump(n) + n;", 5, "I", 12, 13, 0}, {"i := n + bump(n);", 5, "I", 11, 13, 0}, {"i := bump(n);", 32767, "", 0, 9, api.FaultOver}, {"a[1] := 5; i := bump(a[n]); i := a[1];", 1, "I", 6, 18, 0}, {"i := bump(a[n]);", 5, "", 0, 4, api.FaultIndex}, {"i := bump(a[n / 0]);", 5, "", 0, 6, api.FaultZero},
	})
}

// Calls of instances: a function block's run, and steps of the standard blocks.
func TestInstanceCalls(t *testing.T) {
	checkDid(t, []did{
		{"e();", 0, "", 0, 1, 0}, {"e(); e(); e();", 0, "", 0, 3, 0},
		// The body of BLK: TMP (2), C (4), Q (2), TMP (2), R with a call of BUMP (2, 2 and 8, 1).
		{"m(r := n);", 5, "N", 6, 2 + 1 + 23, 0}, {"m(n := 3, r := n); m(r := n, q => i);", 5, "N", 6 + 3 + 1 + 6, 2 + 2 + 1 + 23 + 2 + 1 + 23 + 2, 0}, {"m(r := n, q => i);", 5, "I", 4, 2 + 1 + 23 + 2, 0}, {"m(r := n); m(r := n, q => i);", 5, "I", 4, 2*(2+1+23) + 2, 0},
		{"m(n := n, r := n);", 101, "", 0, 2, api.FaultRange}, {"m(s := 'abcde', r := n);", 1, "", 0, 2, api.FaultText}, {"m(r := a[n]);", 9, "", 0, 3, api.FaultIndex}, {"m(r := n, q => a[n]);", 9, "", 0, 2 + 1 + 23 + 3, api.FaultIndex}, {"m(r := n, q => lv);", -50, "LV", 4, 2 + 1 + 23 + 2, 0},
		{"k();", 0, "", 0, 1, 0}, {"k(IN := n > 0, PT := T#0s, Q => b);", 1, "B", 1, 4 + 2 + 1 + 2, 0}, {"k(IN := n > 0, PT := T#0s, Q => b);", 0, "B", 0, 4 + 2 + 1 + 2, 0}, {"k(TRUE, T#1s, ET => t); i := 4;", 0, "I", 4, 2 + 2 + 1 + 2 + 2, 0},
	})
	// A timer over several activations.
	p := of(t, "k(IN := TRUE, PT := T#10ns, Q => b, ET => t);")
	pou, base := p.first()
	for _, x := range []struct{ now, q, et int }{{5, 0, 0}, {10, 0, 5}, {14, 0, 9}, {15, 1, 10}, {99, 1, 10}, {api.MaxNow, 1, 10}} {
		after, _, fault := meaning.Run(p.codes, pou, base, x.now, p.cells, p.mem, unbounded)
		if fault != 0 || after[p.at("B")].Bits != uint64(x.q) || after[p.at("T")].Bits != uint64(x.et) {
			t.Fatal(x, fault)
		}
		p.mem = after
	}
}

// Of the first POU's number, from the first cell on, and behind the last one, if the code has no cells.
func TestFirstAndLast(t *testing.T) {
	x := built(t, "FUNCTION_BLOCK first VAR n : INT; END_VAR n := n + 1; END_FUNCTION_BLOCK FUNCTION_BLOCK bare END_FUNCTION_BLOCK PROGRAM p VAR k : SR; f : first; i : INT; e : bare; END_VAR k(TRUE, FALSE); f(); i := 5; e(); END_PROGRAM CONFIGURATION c RESOURCE r ON x PROGRAM m : p; END_RESOURCE END_CONFIGURATION")
	after, rules, fault := x.run(unbounded)
	if fault != 0 || rules != 2+2+1+1+4+2+1 || len(after) != 5 || after[2].Bits != 1 || after[3].Bits != 1 || after[4].Bits != 5 {
		t.Error(after, rules, fault)
	}
	x.checkSteps(t, "first and last")
}

// What codes can't find or keep, as they can where they run from another cell on than theirs: these faults are the machine's, too.
func TestElsewhere(t *testing.T) {
	x := built(t, "FUNCTION_BLOCK b VAR_IN_OUT r : INT; END_VAR r := 5; END_FUNCTION_BLOCK FUNCTION f : INT VAR_IN_OUT r : INT; END_VAR END_FUNCTION FUNCTION_BLOCK c VAR_IN_OUT r : INT; END_VAR VAR i : INT; END_VAR i := f(r); END_FUNCTION_BLOCK "+
		"PROGRAM p VAR i : INT; t : TON; k : b; n : DINT; END_VAR n := 4; END_PROGRAM PROGRAM q VAR t : TON; END_VAR t(); END_PROGRAM PROGRAM s VAR u : INT; k : b; END_VAR k(u); END_PROGRAM PROGRAM w VAR u : INT; END_VAR u := 1; END_PROGRAM FUNCTION_BLOCK d VAR i : INT; END_VAR END_FUNCTION_BLOCK PROGRAM v VAR k : d; END_VAR k(); END_PROGRAM "+
		"CONFIGURATION z RESOURCE r ON x PROGRAM m : p; END_RESOURCE END_CONFIGURATION")
	// The cells: F's result 0 and R 1; I 2, T 3 to 8, K's R 9, N 10.
	pou := func(name string) int {
		return slices.IndexFunc(x.codes, func(c api.Code) bool { return c.Name == name })
	}
	for _, y := range []struct {
		name         string
		base, r      int
		rules, fault int
	}{
		{"W", 2, 0, 2, 0}, {"W", 3, 0, 2, api.FaultKind}, {"W", 10, 0, 2, api.FaultKind}, {"W", 11, 0, 2, api.FaultRef}, {"P", 3, 0, 2, api.FaultRef},
		{"Q", 3, 0, 1, 0}, {"Q", 2, 0, 1, api.FaultKind}, {"Q", 6, 0, 1, api.FaultRef}, {"Q", 5, 0, 1, api.FaultKind},
		{"B", 9, 2, 2, 0}, {"B", 9, 10, 2, api.FaultKind}, {"B", 9, 11, 2, api.FaultRef}, {"B", 9, -1, 2, api.FaultRef}, {"B", 2, 0, 2, api.FaultRef}, {"B", 11, 0, 2, api.FaultRef},
		{"S", 8, 0, 5, api.FaultKind}, {"S", 9, 0, 2, api.FaultKind}, {"S", 10, 0, 2, api.FaultRef}, {"V", 10, 0, 1, 0}, {"V", 11, 0, 1, api.FaultRef}, {"C", 9, 11, 3, api.FaultRef}, {"C", 9, 10, 5, api.FaultKind}, {"C", 9, 2, 5, api.FaultKind},
	} {
		mem := slices.Clone(x.mem)
		mem[9].Bits = uint64(y.r)
		if _, rules, fault := meaning.Run(x.codes, pou(y.name), y.base, 0, x.cells, mem, unbounded); fault != y.fault || rules != y.rules {
			t.Error(y, rules, fault)
		}
	}
}

// VarInOuts through several runs: what they refer to is the one cell.
func TestReferences(t *testing.T) {
	p := built(t, `FUNCTION f : INT VAR_IN_OUT x : INT; END_VAR x := x + 1; f := x; END_FUNCTION
FUNCTION g : INT VAR_IN_OUT x, y : INT; END_VAR g := f(x) * 100 + f(y); x := x + 10; END_FUNCTION
FUNCTION_BLOCK c VAR_IN_OUT v : INT; END_VAR VAR o : INT; END_VAR v := g(v, v) + v; v := v + g(o, v); END_FUNCTION_BLOCK
FUNCTION_BLOCK d VAR_IN_OUT v : INT; END_VAR VAR k : c; END_VAR k(v); END_FUNCTION_BLOCK
PROGRAM p VAR a : ARRAY [1..3] OF INT; i : INT; k : d; END_VAR i := 2; k(v := a[i]); END_PROGRAM CONFIGURATION z RESOURCE r ON x PROGRAM m : p; END_RESOURCE END_CONFIGURATION`)
	// V is 0; G(V, V): 1 * 100 + 2, V 12; V := 102 + 12; G(O, V): O 1, V 115: 215, O 11; V := 114 (read ahead of the call) + 215.
	after, _, fault := p.run(unbounded)
	if at := p.at("A"); fault != 0 || after[at+1].Bits != 329 || after[at].Bits != 0 || after[at+2].Bits != 0 {
		t.Error(after, fault)
	}
}

// deepCalls is a program behind which so many functions lie within one another.
func deepCalls(functions int, by string) string {
	src := ""
	for i := functions; i > 0; i-- {
		inner := "1"
		if i < functions {
			inner = "f" + string(rune('a'+i+1)) + "()"
		}
		src += "FUNCTION f" + string(rune('a'+i)) + " : INT f" + string(rune('a'+i)) + " := " + inner + "; END_FUNCTION\n"
	}
	return src + by + " CONFIGURATION c RESOURCE r ON x PROGRAM m : p; END_RESOURCE END_CONFIGURATION"
}

// At most MaxCalls runs lie within one another.
func TestDeepCalls(t *testing.T) {
	program := "PROGRAM p VAR i : INT; END_VAR i := fb(); END_PROGRAM"
	p := built(t, deepCalls(api.MaxCalls-1, program))
	after, rules, fault := p.run(unbounded)
	if fault != 0 || after[p.at("I")].Bits != 1 || rules != 2+15*4 {
		t.Error(rules, fault)
	}
	p.checkSteps(t, "15 functions")
	p = built(t, deepCalls(api.MaxCalls, program))
	// The last call begins, and finds no room.
	if after, rules, fault := p.run(unbounded); after != nil || fault != api.FaultSteps || rules != 2+15*4 {
		t.Error(rules, fault)
	}
	within := "FUNCTION_BLOCK k VAR i : INT; END_VAR i := fb(); END_FUNCTION_BLOCK FUNCTION_BLOCK l VAR x : k; END_VAR x(); END_FUNCTION_BLOCK PROGRAM p VAR x : l; END_VAR x(); END_PROGRAM"
	if _, _, fault := built(t, deepCalls(api.MaxCalls-3, within)).run(unbounded); fault != 0 {
		t.Error(fault)
	}
	if _, _, fault := built(t, deepCalls(api.MaxCalls-2, within)).run(unbounded); fault != api.FaultSteps {
		t.Error(fault)
	}
	// Instances alone, and runs one behind the other, which do not add up.
	blocks := "FUNCTION_BLOCK b0 VAR n : INT; END_VAR n := n + 1; END_FUNCTION_BLOCK "
	for i := 1; i <= api.MaxCalls; i++ {
		name, inner := "b"+string(rune('a'+i)), "b"+string(rune('a'+i-1))
		if i == 1 {
			inner = "b0"
		}
		blocks += "FUNCTION_BLOCK " + name + " VAR x : " + inner + "; END_VAR x(); x(); END_FUNCTION_BLOCK "
	}
	for _, x := range []struct {
		name  string
		fault int
	}{{"bo", 0}, {"bp", api.FaultSteps}} {
		p := built(t, blocks+"PROGRAM p VAR x : "+x.name+"; END_VAR x(); END_PROGRAM CONFIGURATION c RESOURCE r ON x PROGRAM m : p; END_RESOURCE END_CONFIGURATION")
		after, _, fault := p.run(unbounded)
		if fault != x.fault || fault == 0 && after[p.at("X")].Bits != 1<<14 {
			t.Error(x, fault)
		}
	}
}

// Jumps go on behind their label; the label they come to is no rule then.
func TestJumps(t *testing.T) {
	for _, x := range []struct {
		lines       string
		a, n, rules int
	}{
		// _ACC's initial value (2), _ACC := A (2), the jump (2); then M := 2 (2), or N := 1 (2), the label (1), M := 2 (2).
		{"LD a\nJMPC l\nLD 1\nST n\nl: LD 2\nST m", 1, 0, 8}, {"LD a\nJMPC l\nLD 1\nST n\nl: LD 2\nST m", 0, 1, 11},
		{"JMP l\nLD 1\nST n\nl: LD 2\nST m", 0, 0, 3}, {"k: LD 1\nST n\nl: LD 2\nST m", 0, 1, 6},
		{"JMP l\nk: LD 1\nST n\nl: JMP o\nLD 5\nST n\no: LD 2\nST m", 0, 0, 4},
		{"JMP l\nl: LD 2\nST m", 0, 0, 3}, {"LD a\nJMPC l\nl: LD 2\nST m", 1, 0, 8}, {"LD a\nJMPCN l\nLD 1\nST n\nl: LD 2\nST m", 1, 1, 12},
		{"LD a\nRETC\nLD 1\nST n\nLD 2\nST m", 0, 1, 10},
	} {
		lines, err := il.Parse(x.lines)
		if err != nil {
			t.Fatal(err)
		}
		body, hidden, err := ilcore.Trees(lines)
		if err != nil {
			t.Fatal(err)
		}
		p, _, err := decl.Parse([]string{"PROGRAM p VAR a : BOOL; n, m : INT; END_VAR END_PROGRAM CONFIGURATION c RESOURCE r ON x PROGRAM q : p; END_RESOURCE END_CONFIGURATION"})
		if err != nil {
			t.Fatal(err)
		}
		p.Pous[0].Vars = append(p.Pous[0].Vars, hidden...)
		m := typed(t, p, [][]api.Stmt{body})
		m.set(t, "A", x.a)
		after, rules, fault := m.run(unbounded)
		if fault != 0 || rules != x.rules || after[1].Bits != uint64(x.n) || after[2].Bits != 2 {
			t.Error(x.lines, after, rules, fault)
		}
		m.checkSteps(t, x.lines)
	}
	// Within a loop a jump stays in its list; EXIT and RETURN go out of it.
	label, jump := api.Stmt{Op: api.StLabel, Name: "L"}, api.Stmt{Op: api.StJump, Name: "L"}
	p := of(t, "FOR i := 1 TO 3 DO n := n + 10; n := n + 1; IF i = 2 THEN EXIT; END_IF; END_FOR;")
	loop := &p.codes[len(p.codes)-1].Body[0]
	loop.Body = []api.Stmt{jump, loop.Body[0], label, loop.Body[1], loop.Body[2]}
	if after, rules, fault := p.run(unbounded); fault != 0 || after[p.at("N")].Bits != 2 || rules != 1+9+1+9+1 {
		t.Error(after[p.at("N")], rules, fault)
	}
}

// Every fault of 16.1, in its order, of Run and of Value.
func TestAdmitted(t *testing.T) {
	p := of(t, "n := n + 1;")
	pou, base := p.first()
	one := p.codes[pou].Body[0].Exprs[1]
	type asked struct {
		fn, base, now int
		mem           []api.Value
		most          int
	}
	with := func(at int, v api.Value) []api.Value {
		l := slices.Clone(p.mem)
		l[at] = v
		return l
	}
	ref := slices.IndexFunc(p.cells, func(c api.Cell) bool { return c.Kind == api.KRef })
	whole := len(p.mem)
	for _, x := range []struct {
		asked
		run, value int
	}{
		{asked{pou, base, 0, p.mem, 9}, 0, 0}, {asked{pou, base, api.MaxNow, p.mem, 9}, 0, 0}, {asked{pou, base, 0, with(ref, api.Value{Kind: api.KRef, Bits: 1 << 63}), 9}, 0, 0}, {asked{pou, base, 0, with(p.at("LV"), api.Value{Kind: api.KInt, Bits: 30000}), 9}, 0, 0},
		{asked{-1, base, 0, p.mem, 9}, api.FaultKind, 0}, {asked{len(p.codes), base, 0, p.mem, 9}, api.FaultKind, 0}, {asked{-1 << 63, -1, 0, p.mem, -1}, api.FaultKind, api.FaultRef},
		{asked{pou, base, 0, p.mem[1:], 9}, api.FaultKind, api.FaultKind}, {asked{pou, base, 0, nil, 9}, api.FaultKind, api.FaultKind}, {asked{pou, base, 0, append(slices.Clone(p.mem), p.mem[0]), 9}, api.FaultKind, api.FaultKind},
		{asked{pou, base, 0, with(0, api.Value{}), 9}, api.FaultKind, api.FaultKind}, {asked{pou, base, 0, with(p.at("LV"), api.Value{Kind: api.KDint}), 9}, api.FaultKind, api.FaultKind}, {asked{pou, base, 0, with(p.at("LV"), api.Value{Kind: api.KInt, Bits: 32768}), 9}, api.FaultKind, api.FaultKind},
		{asked{pou, base, 0, with(ref, api.Value{Kind: api.KInt}), 9}, api.FaultKind, api.FaultKind}, {asked{pou, base, 0, with(p.at("N"), api.Value{Kind: api.KRef}), 9}, api.FaultKind, api.FaultKind}, {asked{pou, base, 0, with(p.at("S"), api.Value{Kind: api.KString, Text: strings.Repeat("x", 255)}), 9}, api.FaultKind, api.FaultKind},
		{asked{pou, base, -1, p.mem, 9}, api.FaultKind, api.FaultKind}, {asked{pou, base, api.MaxNow + 1, p.mem, 9}, api.FaultKind, api.FaultKind}, {asked{pou, -1, -1, p.mem, -1}, api.FaultKind, api.FaultKind},
		{asked{pou, -1, 0, p.mem, 9}, api.FaultRef, api.FaultRef}, {asked{pou, whole + 1, 0, p.mem, 9}, api.FaultRef, api.FaultRef}, {asked{pou, -1 << 63, 0, p.mem, -1}, api.FaultRef, api.FaultRef}, {asked{pou, 1<<63 - 1, 0, p.mem, -1}, api.FaultRef, api.FaultRef},
		{asked{pou, base, 0, p.mem, -1}, api.FaultSteps, api.FaultSteps}, {asked{pou, whole, 0, p.mem, -1 << 63}, api.FaultSteps, api.FaultSteps},
	} {
		after, rules, fault := meaning.Run(p.codes, x.fn, x.base, x.now, p.cells, x.mem, x.most)
		if fault != x.run || fault != 0 && (after != nil || rules != 0) || fault == 0 && (len(after) != whole || rules != 4) {
			t.Error(x.asked, rules, fault)
		}
		v, rules, fault := meaning.Value(p.codes, one, x.base, x.now, p.cells, x.mem, x.most)
		if fault != x.value || fault != 0 && (v != api.Value{} || rules != 0) || fault == 0 && (v != api.Value{Kind: api.KInt, Bits: 1} || rules != 3) {
			t.Error(x.asked, v, rules, fault)
		}
	}
	// A code that asks no cell runs from behind the last one.
	empty := of(t, ";")
	if after, rules, fault := meaning.Run(empty.codes, len(empty.codes)-1, whole, 0, empty.cells, empty.mem, 1); fault != 0 || rules != 1 || len(after) != whole {
		t.Error(rules, fault)
	}
	if after, rules, fault := meaning.Run([]api.Code{{}}, 0, 0, 0, nil, nil, 0); fault != 0 || rules != 0 || len(after) != 0 {
		t.Error(after, rules, fault)
	}
}

// Values of expressions, with their rules and faults; the cells stay.
func TestValues(t *testing.T) {
	p := of(t, "i := bump(n) * 2 + a[3]; d := n / 0; m(r := a[n]);").set(t, "N", 4)
	pou, base := p.first()
	body := p.codes[pou].Body
	before := slices.Clone(p.mem)
	call := body[2].Exprs[1]
	for _, x := range []struct {
		e            api.Expr
		want         api.Value
		rules, fault int
	}{
		{body[0].Exprs[1], api.Value{Kind: api.KInt, Bits: 10}, 2 + 10 + 1 + 2, 0},
		{body[0].Exprs[1].Kids[0].Kids[0], api.Value{Kind: api.KInt, Bits: 5}, 10, 0},
		{body[0].Exprs[0], api.Value{Kind: api.KInt}, 1, 0},
		{body[1].Exprs[1], api.Value{}, 4, api.FaultZero},
		{body[2].Exprs[0], api.Value{Kind: api.KRef}, 1, 0},
		{call, api.Value{Kind: api.KRef, Bits: uint64(p.at("A") + 3)}, 2, 0},
		{api.Expr{Op: api.ExLit, Kind: api.KTime, Value: api.Value{Kind: api.KTime, Bits: 7}}, api.Value{Kind: api.KTime, Bits: 7}, 1, 0},
	} {
		v, rules, fault := meaning.Value(p.codes, x.e, base, 0, p.cells, p.mem, unbounded)
		if v != x.want || rules != x.rules || fault != x.fault {
			t.Error(x.e, v, rules, fault)
		}
		for most := range x.rules {
			if v, rules, fault := meaning.Value(p.codes, x.e, base, 0, p.cells, p.mem, most); (v != api.Value{}) || rules != most || fault != api.FaultSteps {
				t.Error(x.e, most, v, rules, fault)
			}
		}
		if v, rules, fault := meaning.Value(p.codes, x.e, base, 0, p.cells, p.mem, x.rules); v != x.want || rules != x.rules || fault != x.fault {
			t.Error(x.e, v, rules, fault)
		}
	}
	if !reflect.DeepEqual(p.mem, before) {
		t.Error("changed")
	}
}

// Each operation over values by chance is as value has it, with its fault, and so is each conversion and standard function.
func TestOperations(t *testing.T) {
	r := rand.New(rand.NewSource(1))
	lit := func(v api.Value) api.Expr { return api.Expr{Op: api.ExLit, Kind: v.Kind, Value: v} }
	for range 20000 {
		k := api.KBool + api.Kind(r.Intn(int(api.KString)))
		a, b := someOf(r, k), someOf(r, k)
		op := api.OpAdd + r.Intn(14)
		want, fault := value.Reckon(op, a, b)
		v, rules, f := meaning.Value(nil, api.Expr{Op: op, Kids: []api.Expr{lit(a), lit(b)}}, 0, 0, nil, nil, 9)
		if v != want || f != fault || rules != 3 {
			t.Fatal(op, a, b, v, rules, f)
		}
		op = api.OpNeg + r.Intn(2)
		want, fault = value.Turn(op, a)
		v, rules, f = meaning.Value(nil, api.Expr{Op: op, Kids: []api.Expr{lit(a)}}, 0, 0, nil, nil, 9)
		if v != want || f != fault || rules != 2 {
			t.Fatal(op, a, v, rules, f)
		}
		to := api.KBool + api.Kind(r.Intn(int(api.KString)))
		want, fault = value.Convert(to, a)
		v, rules, f = meaning.Value(nil, api.Expr{Op: api.ExConv, Kind: to, Kids: []api.Expr{lit(a)}}, 0, 0, nil, nil, 9)
		if v != want || f != fault || rules != 2 {
			t.Fatal(to, a, v, rules, f)
		}
	}
}

// someOf is a value of a kind by chance.
func someOf(r *rand.Rand, k api.Kind) api.Value {
	for {
		v := api.Value{Kind: k, Bits: r.Uint64() >> r.Intn(64)}
		switch {
		case k == api.KString:
			v = api.Value{Kind: k, Text: strings.Repeat("ab", r.Intn(3))}
		case k == api.KDate:
			v.Bits = uint64(r.Intn(84006)) * 86400000000000
		case r.Intn(2) == 0:
			v.Bits = -v.Bits
		}
		if value.May(v) {
			return v
		}
	}
}
