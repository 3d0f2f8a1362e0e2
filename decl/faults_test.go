package decl_test

import (
	"errors"
	"reflect"
	"strings"
	"testing"

	"relay/api"
	"relay/decl"
)

// fault cuts the mark ¦ out of a source: there the fault must be told, also behind a source that has none.
func fault(t *testing.T, marked string, why api.Errno) {
	t.Helper()
	ahead, behind, ok := strings.Cut(marked, "¦")
	if !ok {
		t.Fatal(marked)
	}
	for n, sources := range [][]string{{ahead + behind}, {"", ahead + behind, "#"}} {
		p, got, err := decl.Parse(sources)
		if got != n || err != error(api.Fault{At: len(ahead), Why: why}) || !errors.Is(err, why) || !reflect.DeepEqual(p, api.Project{}) {
			t.Errorf("%.300q: %v %d %v, wanted %v at %d", marked, p, got, err, why, len(ahead))
		}
	}
}

func faults(t *testing.T, why api.Errno, list ...string) {
	t.Helper()
	for _, s := range list {
		fault(t, s, why)
	}
}

// P4.1: words that may not stand there.
func TestTokenFaults(t *testing.T) {
	faults(t, api.ErrToken,
		"¦x", "¦;", "¦5", "¦{ST}", "¦%IX0.0", "¦VAR x : INT; END_VAR", "¦END_TYPE", "TYPE END_TYPE ¦;", "¦VAR_GLOBAL", "¦ACTION", "¦RESOURCE r",
		"TYPE¦", "TYPE ¦5", "TYPE ¦;", "TYPE ¦INT : BOOL; END_TYPE", "TYPE a¦", "TYPE a ¦; END_TYPE", "TYPE a ¦:= INT;", "TYPE a :¦", "TYPE a : ¦; END_TYPE", "TYPE a : INT¦", "TYPE a : INT ¦END_TYPE", "TYPE a : INT; ¦END_VAR", "TYPE a : INT ¦:= 5; END_TYPE", "TYPE a ¦, b : INT; END_TYPE", "TYPE a : ¦{INT}; END_TYPE", "TYPE a : ¦'INT'; END_TYPE", "TYPE a : ¦TYPE; END_TYPE", "TYPE ¦{END_TYPE}",
		"TYPE a : (¦); END_TYPE", "TYPE a : (b¦; c); END_TYPE", "TYPE a : (b, ¦); END_TYPE", "TYPE a : (¦5); END_TYPE", "TYPE a : (b ¦c); END_TYPE", "TYPE a : (b¦", "TYPE a : (b) ¦:= b; END_TYPE", "TYPE a : (¦IF); END_TYPE",
		"TYPE a : INT (¦", "TYPE a : INT (0¦", "TYPE a : INT (0 ¦, 1); END_TYPE", "TYPE a : INT (0..¦); END_TYPE", "TYPE a : INT (0..1¦; END_TYPE", "TYPE a : INT (¦INT#0..1); END_TYPE", "TYPE a : INT (¦b..1); END_TYPE", "TYPE a : INT (-¦-1..1); END_TYPE", "TYPE a : INT (¦0.5..1); END_TYPE", "TYPE a : INT (¦+1..2); END_TYPE", "TYPE a : INT (¦'0'..1); END_TYPE", "TYPE a : INT (¦TRUE..1); END_TYPE", "TYPE a : INT ¦[0..1]; END_TYPE", "TYPE a : INT (0..1) ¦(0..1); END_TYPE",
		"TYPE a : BOOL (0..1¦", "TYPE a : BOOL (0..1¦]; END_TYPE",
		"TYPE a : ULINT (0..¦9223372036854775808); END_TYPE", "TYPE a : LINT (-¦9223372036854775809..0); END_TYPE", "TYPE a : LINT (¦18446744073709551615..0); END_TYPE",
		"TYPE a : STRING [¦]; END_TYPE", "TYPE a : STRING [5¦; END_TYPE", "TYPE a : STRING ¦(0..1); END_TYPE", "TYPE a : STRING [5¦..6]; END_TYPE", "TYPE a : STRING [¦'5']; END_TYPE", "TYPE a : STRING [300¦", "TYPE a : STRING [¦INT#5]; END_TYPE",
		"TYPE a : ARRAY ¦OF INT; END_TYPE", "TYPE a : ARRAY [¦] OF INT; END_TYPE", "TYPE a : ARRAY [1¦] OF INT; END_TYPE", "TYPE a : ARRAY [1..¦] OF INT; END_TYPE", "TYPE a : ARRAY [1..2¦, 3..4] OF INT; END_TYPE", "TYPE a : ARRAY [1..2] ¦INT; END_TYPE", "TYPE a : ARRAY [1..2] OF ¦; END_TYPE", "TYPE a : ARRAY [1..2] OF ¦ARRAY [1..2] OF INT; END_TYPE", "TYPE a : ARRAY [1..2] OF ¦(b, c); END_TYPE", "TYPE a : ARRAY [1..300] OF ¦", "TYPE a : ARRAY [2..1] OF BOOL (0..1¦",
		"PROGRAM¦", "PROGRAM ¦5", "PROGRAM ¦IF END_PROGRAM", "PROGRAM p¦", "PROGRAM p VAR¦", "PROGRAM p VAR ¦5", "PROGRAM p VAR x¦", "PROGRAM p VAR x ¦; END_VAR", "PROGRAM p VAR x, ¦; END_VAR", "PROGRAM p VAR x ¦y : INT; END_VAR", "PROGRAM p VAR x :¦", "PROGRAM p VAR x : INT¦", "PROGRAM p VAR x : INT ¦END_VAR", "PROGRAM p VAR x : INT; ¦END_PROGRAM", "PROGRAM p VAR x : INT; ¦VAR y : INT; END_VAR END_VAR", "PROGRAM p VAR x : ¦(a, b); END_VAR END_PROGRAM",
		"PROGRAM p VAR x AT ¦5 : INT;", "PROGRAM p VAR x AT ¦: INT;", "PROGRAM p VAR x AT¦", "PROGRAM p VAR ¦AT %IX0.0 : BOOL; END_VAR END_PROGRAM", "CONFIGURATION c VAR_GLOBAL x AT %IX0.0 ¦AT %IX0.1 : BOOL;",
		"PROGRAM p VAR x : INT := ¦; END_VAR", "PROGRAM p VAR x : INT :=¦", "PROGRAM p VAR x : INT ¦= 5; END_VAR", "PROGRAM p VAR x : INT := -¦a; END_VAR", "PROGRAM p VAR x : INT := -¦; END_VAR", "PROGRAM p VAR x : INT := -¦-5; END_VAR", "PROGRAM p VAR x : INT := 5 ¦+ 5; END_VAR", "PROGRAM p VAR x : INT := ¦+5; END_VAR", "PROGRAM p VAR x : INT := ¦(5); END_VAR", "PROGRAM p VAR x : INT := ¦INT; END_VAR", "PROGRAM p VAR x : INT := 5¦",
		"PROGRAM p VAR x : INT := [¦]; END_VAR", "PROGRAM p VAR x : INT := [-¦]; END_VAR", "PROGRAM p VAR x : ARRAY [1..2] OF INT := -¦; END_VAR", "PROGRAM p VAR x : ARRAY [1..2] OF INT := [¦]; END_VAR", "PROGRAM p VAR x : ARRAY [1..2] OF INT := [1¦; END_VAR", "PROGRAM p VAR x : ARRAY [1..2] OF INT := [1,¦]; END_VAR", "PROGRAM p VAR x : ARRAY [1..2] OF INT := [1 ¦2]; END_VAR", "PROGRAM p VAR x : ARRAY [1..2] OF INT := [1, -¦]; END_VAR", "PROGRAM p VAR x : ARRAY [1..2] OF INT := [1, 2¦(3)]; END_VAR",
		"PROGRAM p x := 1;¦", "PROGRAM p (* END_PROGRAM *)¦", "PROGRAM p 'END_PROGRAM' {END_PROGRAM} END_PROGRAM1¦", "PROGRAM p ¦END_FUNCTION END_PROGRAM", "PROGRAM p x ¦END_FUNCTION_BLOCK", "FUNCTION_BLOCK p ¦END_PROGRAM", "FUNCTION_BLOCK p ¦END_FUNCTION", "FUNCTION f : INT ¦END_FUNCTION_BLOCK", "FUNCTION f : INT ¦END_PROGRAM", "PROGRAM p END_PROGRAM ¦;", "PROGRAM p {ST}¦",
		"FUNCTION¦", "FUNCTION f¦", "FUNCTION f ¦INT END_FUNCTION", "FUNCTION f ¦END_FUNCTION", "FUNCTION f :¦", "FUNCTION f : ¦ARRAY [1..2] OF INT END_FUNCTION", "FUNCTION f : ¦(a, b) END_FUNCTION", "FUNCTION f : ¦; END_FUNCTION", "FUNCTION f : INT (¦x) END_FUNCTION", "FUNCTION_BLOCK f¦", "FUNCTION_BLOCK ¦: INT",
		"FUNCTION f : INT ¦VAR_OUTPUT", "FUNCTION f : INT ¦VAR_OUTPUT x : INT; END_VAR END_FUNCTION", "FUNCTION f : INT ¦VAR_EXTERNAL x : INT; END_VAR END_FUNCTION", "FUNCTION f : INT VAR x : INT; END_VAR ¦VAR_OUTPUT x : INT; END_VAR END_FUNCTION",
		"FUNCTION f : INT VAR ¦RETAIN x : INT; END_VAR END_FUNCTION", "FUNCTION f : INT VAR_INPUT ¦RETAIN x : INT; END_VAR END_FUNCTION",
		"PROGRAM p VAR_IN_OUT ¦RETAIN END_VAR END_PROGRAM", "PROGRAM p VAR_TEMP ¦RETAIN END_VAR END_PROGRAM", "PROGRAM p VAR_EXTERNAL ¦RETAIN END_VAR END_PROGRAM", "PROGRAM p VAR_INPUT ¦CONSTANT END_VAR END_PROGRAM", "PROGRAM p VAR_OUTPUT ¦CONSTANT END_VAR END_PROGRAM", "PROGRAM p VAR_IN_OUT ¦CONSTANT END_VAR END_PROGRAM", "PROGRAM p VAR_TEMP ¦CONSTANT END_VAR END_PROGRAM", "PROGRAM p VAR RETAIN ¦CONSTANT END_VAR END_PROGRAM", "PROGRAM p VAR RETAIN ¦RETAIN END_VAR END_PROGRAM", "PROGRAM p VAR CONSTANT ¦RETAIN END_VAR END_PROGRAM", "PROGRAM p VAR x : INT; ¦RETAIN END_VAR END_PROGRAM",
		"PROGRAM p ¦VAR_GLOBAL x : INT; END_VAR END_PROGRAM", "FUNCTION_BLOCK p VAR END_VAR ¦VAR_GLOBAL END_VAR END_FUNCTION_BLOCK", "FUNCTION f : INT ¦VAR_GLOBAL END_VAR END_FUNCTION",
		"CONFIGURATION¦", "CONFIGURATION ¦RESOURCE", "CONFIGURATION c¦", "CONFIGURATION c ¦VAR x : INT; END_VAR", "CONFIGURATION c ¦VAR_INPUT", "CONFIGURATION c ¦VAR_EXTERNAL", "CONFIGURATION c ¦END_CONFIGURATION", "CONFIGURATION c ¦TASK", "CONFIGURATION c RESOURCE ¦ON p", "CONFIGURATION c RESOURCE r¦", "CONFIGURATION c RESOURCE r ¦END_RESOURCE", "CONFIGURATION c RESOURCE r ON¦", "CONFIGURATION c RESOURCE r ON ¦5", "CONFIGURATION c RESOURCE r ON p¦", "CONFIGURATION c RESOURCE r ON p ¦VAR", "CONFIGURATION c RESOURCE r ON p ¦END_CONFIGURATION", "CONFIGURATION c RESOURCE r ON p END_RESOURCE¦", "CONFIGURATION c RESOURCE r ON p END_RESOURCE ¦RESOURCE", "CONFIGURATION c RESOURCE r ON p END_RESOURCE ¦;", "CONFIGURATION c RESOURCE r ON p END_RESOURCE END_CONFIGURATION ¦;", "CONFIGURATION c ¦TYPE END_TYPE", "CONFIGURATION c VAR_GLOBAL RETAIN ¦CONSTANT END_VAR",
	)
	const head = "CONFIGURATION c VAR_GLOBAL g : BOOL; END_VAR RESOURCE r ON p "
	for _, s := range []string{
		"TASK¦", "TASK ¦(", "TASK t¦", "TASK t ¦;", "TASK t (¦", "TASK t (¦x := T#1s", "TASK t (¦5", "TASK t (¦PRIORITY := 1); END_RESOURCE", "TASK t (¦)", "TASK t (INTERVAL¦", "TASK t (INTERVAL ¦= T#1s", "TASK t (INTERVAL := ¦g", "TASK t (INTERVAL := ¦-T#1s", "TASK t (INTERVAL := ¦,", "TASK t (INTERVAL := T#1s¦", "TASK t (INTERVAL := T#1s¦)", "TASK t (INTERVAL := T#1s, ¦)", "TASK t (INTERVAL := T#1s, ¦SINGLE := g", "TASK t (INTERVAL := T#1s, PRIORITY ¦1", "TASK t (INTERVAL := T#1s, PRIORITY := ¦)", "TASK t (INTERVAL := T#1s, PRIORITY := ¦INT#1)", "TASK t (INTERVAL := T#1s, PRIORITY := ¦g)", "TASK t (INTERVAL := T#1s, PRIORITY := -¦g)", "TASK t (INTERVAL := T#1s, PRIORITY := 1¦;", "TASK t (INTERVAL := T#1s, PRIORITY := 1)¦", "TASK t (INTERVAL := T#1s, PRIORITY := 1) ¦TASK", "TASK t (INTERVAL := T#1s, PRIORITY := ¦9223372036854775808);",
		"TASK t (SINGLE := ¦T#1s", "TASK t (SINGLE := ¦TRUE", "TASK t (SINGLE := ¦%IX0.0", "TASK t (SINGLE := ¦, ", "TASK t (SINGLE ¦g", "TASK t (SINGLE := g ¦;",
		"PROGRAM¦", "PROGRAM ¦:", "PROGRAM m¦", "PROGRAM m ¦;", "PROGRAM m WITH¦", "PROGRAM m WITH ¦: p;", "PROGRAM m :¦", "PROGRAM m : ¦;", "PROGRAM m : p¦", "PROGRAM m : p ¦WITH t;", "PROGRAM m : p; ¦TASK t (INTERVAL := T#1s, PRIORITY := 1);", "PROGRAM m : p; ¦VAR_GLOBAL", "PROGRAM m : p ¦(x := 1);", "PROGRAM m : ¦INT;",
	} {
		fault(t, head+s, api.ErrToken)
	}
}

// 4.2, types.
func TestTypeFaults(t *testing.T) {
	faults(t, api.ErrTwice,
		"TYPE a : INT; ¦a : INT; END_TYPE", "TYPE a : INT; END_TYPE TYPE ¦A : ; END_TYPE", "PROGRAM p END_PROGRAM TYPE ¦p : INT; END_TYPE", "FUNCTION p : INT END_FUNCTION TYPE ¦P : INT; END_TYPE", "FUNCTION_BLOCK p END_FUNCTION_BLOCK TYPE ¦P : 5", "TYPE ¦ton", "TYPE ¦SR : INT; END_TYPE",
		"TYPE a : (b, ¦b); END_TYPE", "TYPE a : (b); c : (¦B); END_TYPE", "TYPE a : (b, c, ¦b ; END_TYPE",
		"CONFIGURATION c VAR_GLOBAL g : BOOL; END_VAR RESOURCE r ON p END_RESOURCE END_CONFIGURATION TYPE a : (b, ¦g); END_TYPE",
	)
	for _, b := range strings.Fields("SR RS R_TRIG F_TRIG CTU CTD CTUD TP TON TOF") {
		fault(t, "TYPE ¦"+b+" : INT; END_TYPE", api.ErrTwice)
		fault(t, "PROGRAM ¦"+strings.ToLower(b)+" END_PROGRAM", api.ErrTwice)
		parsed(t, "TYPE a : ("+b+"); END_TYPE PROGRAM p VAR "+b+" : "+b+"; END_VAR END_PROGRAM")
	}
	faults(t, api.ErrSpec,
		"TYPE a : ¦BOOL (0..1); END_TYPE", "TYPE a : ¦BYTE (0..1) END_TYPE", "TYPE a : ¦LREAL (0..1); END_TYPE", "TYPE a : ¦TIME (0..1); END_TYPE", "TYPE a : ¦LWORD (0..1); END_TYPE", "TYPE a : ¦INT (1..0); END_TYPE", "TYPE a : ¦INT (0..32768); END_TYPE", "TYPE a : ¦INT (-32769..0); END_TYPE", "TYPE a : ¦SINT (-129..0); END_TYPE", "TYPE a : ¦USINT (-1..0); END_TYPE", "TYPE a : ¦USINT (0..256); END_TYPE", "TYPE a : ¦ULINT (-1..5); END_TYPE", "TYPE a : ¦UDINT (0..4294967296); END_TYPE", "TYPE a : ¦DINT (0..2147483648); END_TYPE", "TYPE a : ¦UINT (0..65536); END_TYPE",
		"TYPE a : ¦STRING [0]; END_TYPE", "TYPE a : ¦STRING [255]; END_TYPE", "TYPE a : ¦STRING [-1]; END_TYPE", "TYPE a : ¦STRING [0] 5",
		"TYPE a : ¦ARRAY [2..1] OF INT; END_TYPE", "TYPE a : ¦ARRAY [1..257] OF INT; END_TYPE", "TYPE a : ¦ARRAY [-2147483649..-2147483648] OF INT; END_TYPE", "TYPE a : ¦ARRAY [2147483647..2147483648] OF INT; END_TYPE", "TYPE a : ¦ARRAY [-9223372036854775808..9223372036854775807] OF INT; END_TYPE", "TYPE a : ¦ARRAY [9223372036854775807..-9223372036854775808] OF INT; END_TYPE", "TYPE a : ¦ARRAY [-9223372036854775808..-9223372036854775808] OF INT; END_TYPE", "TYPE a : ¦ARRAY [1..300] OF INT END_TYPE",
		"TYPE a : ARRAY [1..2] OF ¦b; END_TYPE", "TYPE a : ARRAY [1..2] OF ¦TON; END_TYPE", "TYPE a : ARRAY [2..1] OF ¦BOOL (0..1); END_TYPE", "TYPE a : ARRAY [2..1] OF ¦b; END_TYPE", "TYPE a : ARRAY [1..2] OF INT; b : ARRAY [1..2] OF ¦a; END_TYPE", "TYPE a : ARRAY [1..2] OF ¦a; END_TYPE", "TYPE a : ARRAY [2..1] OF ¦STRING [0]; END_TYPE",
		"FUNCTION f : ¦b END_FUNCTION", "FUNCTION f : ¦f END_FUNCTION", "FUNCTION f : ¦TON END_FUNCTION", "TYPE a : ARRAY [1..2] OF INT; END_TYPE FUNCTION f : ¦a 5", "FUNCTION f : ¦BOOL (0..1) END_FUNCTION", "FUNCTION f : ¦STRING [0]",
		"FUNCTION_BLOCK b END_FUNCTION_BLOCK TYPE a : ARRAY [1..2] OF ¦b; END_TYPE",
	)
}

// 4.2, POUs and variables.
func TestVarFaults(t *testing.T) {
	faults(t, api.ErrTwice,
		"PROGRAM p END_PROGRAM PROGRAM ¦p END_PROGRAM", "PROGRAM p END_PROGRAM FUNCTION ¦P", "TYPE p : INT; END_TYPE FUNCTION_BLOCK ¦p 5 END_FUNCTION_BLOCK",
		"PROGRAM p VAR x : INT; ¦x : INT; END_VAR END_PROGRAM", "PROGRAM p VAR x, ¦X : INT; END_VAR END_PROGRAM", "PROGRAM p VAR x : INT; END_VAR VAR_INPUT ¦x : INT; END_VAR END_PROGRAM", "PROGRAM p VAR x, ¦x 5",
		"FUNCTION f : INT VAR ¦f : INT; END_VAR END_FUNCTION", "FUNCTION f : INT VAR_INPUT a, ¦F : INT; END_VAR END_FUNCTION",
		"CONFIGURATION c VAR_GLOBAL g : INT; ¦G : INT; END_VAR", "CONFIGURATION c VAR_GLOBAL g : INT; END_VAR RESOURCE r ON p VAR_GLOBAL ¦g : INT;", "TYPE a : (b); END_TYPE CONFIGURATION c VAR_GLOBAL ¦b : INT;",
	)
	parsed(t, "PROGRAM p VAR p : INT; END_VAR END_PROGRAM FUNCTION_BLOCK b VAR b, p : INT; END_VAR END_FUNCTION_BLOCK TYPE e : (x, p, b, q); END_TYPE PROGRAM q VAR x, q : INT; END_VAR END_PROGRAM")
	faults(t, api.ErrSpec,
		"PROGRAM p VAR_INPUT x : ¦ARRAY [1..2] OF INT; END_VAR", "PROGRAM p VAR_OUTPUT x : ¦ARRAY [1..2] OF INT 5", "PROGRAM p VAR_IN_OUT x : ¦ARRAY [1..2] OF INT;", "TYPE a : ARRAY [1..2] OF INT; END_TYPE PROGRAM p VAR_INPUT x : ¦a;",
		"PROGRAM p VAR_INPUT x : ¦TON;", "PROGRAM p VAR_OUTPUT x : ¦TON;", "PROGRAM p VAR_IN_OUT x : ¦nothing;", "PROGRAM p VAR_TEMP x : ¦TON;", "PROGRAM p VAR_EXTERNAL x : ¦TON;", "FUNCTION f : INT VAR x : ¦TON;", "FUNCTION f : INT VAR_INPUT x : ¦TON;", "FUNCTION f : INT VAR_TEMP x : ¦TON;", "CONFIGURATION c VAR_GLOBAL x : ¦TON;", "TYPE a : TON; END_TYPE PROGRAM p VAR_INPUT x : ¦a;", "TYPE a : TON; END_TYPE FUNCTION f : INT VAR x : ¦ARRAY [1..2] OF a;",
		"PROGRAM p VAR x : ¦BOOL (0..1); END_VAR END_PROGRAM", "PROGRAM p VAR x : ¦ARRAY [1..300] OF BOOL; END_VAR END_PROGRAM", "PROGRAM p VAR_INPUT x : ARRAY [1..2] OF ¦BOOL (0..1);", "PROGRAM p VAR_INPUT x : ARRAY [1..2] OF ¦nothing;",
		"CONFIGURATION c VAR_GLOBAL x AT %IX0.0 : ¦BOOL (0..1);", "CONFIGURATION c VAR_GLOBAL x AT %IB0 : ¦TON;",
	)
	parsed(t, "FUNCTION f : INT VAR x : ARRAY [1..2] OF INT; END_VAR VAR_TEMP y : ARRAY [1..2] OF INT; END_VAR END_FUNCTION PROGRAM p VAR_TEMP y : ARRAY [1..2] OF INT; END_VAR VAR_EXTERNAL z : ARRAY [1..2] OF INT; END_VAR VAR x : ton; END_VAR END_PROGRAM")
}

// 4.2, addresses.
func TestAddrFaults(t *testing.T) {
	const head = "CONFIGURATION c VAR_GLOBAL "
	faults(t, api.ErrAddr,
		head+"b AT %IX0.0 : BOOL; i AT ¦%IB0 : INT; END_VAR", head+"a, b AT ¦%IX0.0 : BOOL;", head+"a AT %IX0.0 : BOOL; b AT ¦%ix0.0 : BOOL;", head+"a AT %IX0.0 : BOOL; b AT ¦%ix0.0 5", head+"a AT %MW1 : INT; END_VAR RESOURCE r ON p VAR_GLOBAL b AT ¦%MW1 : INT;",
		head+"a AT ¦%IX0.0 : ARRAY [1..2] OF BOOL;", head+"a AT ¦%IB0 : SINT (0..1);", head+"a AT ¦%IB0 : SINT (0..1) 5", head+"a AT ¦%IB0 : BOOL;", head+"a AT ¦%IX0.0 : BYTE;", head+"a AT ¦%IL0 : TIME;", head+"a AT ¦%IX0.0 : TIME;", head+"a AT ¦%IX0.0 : LREAL;", head+"a AT ¦%IX0.0 : STRING;", head+"a AT ¦%IX0.0 : DT;", head+"a AT ¦%IL0 : LREAL;", head+"a AT ¦%IL0 : DT;", head+"a AT ¦%IL0 : DATE;", head+"a AT ¦%ID0 : TOD;", head+"a AT ¦%IB0 : STRING;", head+"a AT ¦%IB0 : STRING [1];", head+"a AT ¦%ID0 : LINT;", head+"a AT ¦%IW0 : DWORD := 5;",
		"TYPE e : (x, y); END_TYPE "+head+"a AT ¦%IW0 : e;",
		"PROGRAM p VAR a AT ¦%IX0.0 : BOOL; END_VAR", "PROGRAM p VAR_EXTERNAL a AT ¦%IX0.0 5", "FUNCTION f : INT VAR a AT ¦%IX0.0 : BOOL;", "PROGRAM p VAR_INPUT a AT ¦%IB0 : TON;",
	)
	words := map[string]string{"X": "BOOL", "B": "SINT USINT BYTE", "W": "INT UINT WORD", "D": "DINT UDINT DWORD", "L": "LINT ULINT LWORD"}
	for letter, kinds := range words {
		for w, all := range words {
			for _, k := range strings.Fields(all) {
				a := "%Q" + letter + "12"
				if letter == "X" {
					a += ".3"
				}
				if w != letter {
					fault(t, head+"a AT ¦"+a+" : "+k+"; END_VAR", api.ErrAddr)
					continue
				}
				p := parsed(t, head+"a AT "+a+" : "+k+"; END_VAR RESOURCE r ON p END_RESOURCE END_CONFIGURATION")
				if p.Globals[0].Addr != a || !strings.Contains(kinds, k) {
					t.Error(p.Globals)
				}
			}
		}
	}
	parsed(t, head+"a AT %IX0.0 : BOOL; b AT %QX0.0 : BOOL; c AT %IB0 : BYTE; d AT %IX0.1 : BOOL; END_VAR RESOURCE r ON p END_RESOURCE END_CONFIGURATION")
}

// 4.2, the configuration.
func TestConfigFaults(t *testing.T) {
	const whole = "CONFIGURATION c RESOURCE r ON p END_RESOURCE END_CONFIGURATION "
	fault(t, whole+"CONFIGURATION ¦c RESOURCE", api.ErrTwice)
	fault(t, whole+"TYPE END_TYPE CONFIGURATION ¦d 5", api.ErrTwice)
	if _, n, err := decl.Parse([]string{whole, whole}); n != 1 || err != error(api.Fault{At: 14, Why: api.ErrTwice}) {
		t.Error(n, err)
	}
	const head = "CONFIGURATION c VAR_GLOBAL g : BOOL; l : ARRAY [1..2] OF BOOL; i : INT; y : BYTE; END_VAR RESOURCE r ON p "
	const task = "TASK t (INTERVAL := T#1s, PRIORITY := 1); "
	for s, why := range map[string]api.Errno{
		task + "TASK ¦T": api.ErrTwice,
		task + "TASK ¦t (INTERVAL := T#0s, PRIORITY := 1);": api.ErrTwice,
		"TASK t (INTERVAL := ¦T#0s, PRIORITY := 1);":        api.ErrSpec,
		"TASK t (INTERVAL := ¦T#-1ns 5":                     api.ErrSpec,
		"TASK t (INTERVAL := ¦5, PRIORITY := 1);":           api.ErrSpec,
		"TASK t (INTERVAL := ¦LINT#5, PRIORITY := 1);":      api.ErrSpec,
		"TASK t (INTERVAL := ¦TOD#00:00:01, PRIORITY := 1)": api.ErrSpec,
		"TASK t (INTERVAL := ¦'1s', PRIORITY := 1)":         api.ErrSpec,
		"TASK t (INTERVAL := T#1s, PRIORITY := ¦-1);":       api.ErrSpec,
		"TASK t (INTERVAL := T#1s, PRIORITY := ¦65536 5":    api.ErrSpec,
		"TASK t (INTERVAL := T#1s, PRIORITY := ¦65536);":    api.ErrSpec,
		"TASK t (SINGLE := ¦h, PRIORITY := 1);":             api.ErrUnknown,
		"TASK t (SINGLE := ¦h 5":                            api.ErrUnknown,
		"TASK t (SINGLE := ¦l, PRIORITY := 65536);":         api.ErrUnknown,
		"TASK t (SINGLE := ¦i, PRIORITY := 1);":             api.ErrUnknown,
		"TASK t (SINGLE := ¦y, PRIORITY := 1);":             api.ErrUnknown,
		task + "PROGRAM m : p; PROGRAM ¦M : q;":             api.ErrTwice,
		task + "PROGRAM m WITH t : p; PROGRAM ¦m WITH u":    api.ErrTwice,
		task + "PROGRAM m WITH ¦u : p;":                     api.ErrUnknown,
		"PROGRAM m WITH ¦t 5":                               api.ErrUnknown,
		"PROGRAM m WITH ¦g : p;":                            api.ErrUnknown,
	} {
		fault(t, head+s, why)
	}
	p := parsed(t, head+"VAR_GLOBAL RETAIN h : BOOL; END_VAR TASK t (SINGLE := h, PRIORITY := 65535); TASK u (INTERVAL := time#1ns, PRIORITY := 0); TASK v (Interval := T#9223372036854775807ns, priority := -0); PROGRAM t : t; PROGRAM g WITH T : nothing; END_RESOURCE END_CONFIGURATION")
	tasks := []api.Task{{Name: "T", Single: "H", Priority: 65535}, {Name: "U", Interval: 1}, {Name: "V", Interval: 1<<63 - 1}}
	runs := []api.Run{{Name: "T", Pou: "T"}, {Name: "G", Task: "T", Pou: "NOTHING"}}
	if p = placeless(p); !reflect.DeepEqual(p.Tasks, tasks) || !reflect.DeepEqual(p.Runs, runs) || !p.Globals[4].Keep {
		t.Errorf("%+v", p)
	}
}

// P4.1: lex's faults, and which source is told.
func TestSources(t *testing.T) {
	for _, s := range []string{"¦#", "TYPE a : INT ¦12a", "x y z ¦'a", "PROGRAM p ¦(* END_PROGRAM", "TYPE a : INT; END_TYPE ¦aaaaaaaaaaaaaaaaaaaaaaaaa"} {
		_, behind, _ := strings.Cut(s, "¦")
		why := map[byte]api.Errno{'#': api.ErrByte, '1': api.ErrNumber, '\'': api.ErrOpen, '(': api.ErrOpen, 'a': api.ErrName}[behind[0]]
		fault(t, s, why)
	}
	fault(t, "¦"+strings.Repeat(" ", api.MaxSource+1), api.ErrLong)
	parsed(t, strings.Repeat(" ", api.MaxSource))
	fault(t, strings.Repeat(";", api.MaxTokens)+"¦;", api.ErrLong)
	fault(t, "¦"+strings.Repeat(";", api.MaxTokens), api.ErrToken)
	for _, n := range []int{0, 1, 16} {
		if p, at, err := decl.Parse(make([]string, n)); !reflect.DeepEqual(p, api.Project{}) || at != 0 || err != nil {
			t.Error(n, p, at, err)
		}
	}
	for _, n := range []int{17, 1000} {
		sources := make([]string, n)
		sources[0] = "#"
		if p, at, err := decl.Parse(sources); !reflect.DeepEqual(p, api.Project{}) || at != api.MaxSources || err != error(api.Fault{Why: api.ErrLong}) {
			t.Error(n, p, at, err)
		}
	}
	if _, at, err := decl.Parse([]string{"", "x", "#"}); at != 1 || err != error(api.Fault{Why: api.ErrToken}) {
		t.Error(at, err)
	}
	p := parsed(t, "TYPE a : INT (0..5); END_TYPE", "(* nothing *)", "FUNCTION f : a END_FUNCTION", "CONFIGURATION c RESOURCE r ON q END_RESOURCE END_CONFIGURATION")
	if p.Pous[0].Source != 2 || p.Source != 3 || p.Pous[0].Result != (api.Type{Kind: api.KInt, Sub: true, Hi: 5}) {
		t.Error(p)
	}
}
