package core_test

import (
	"strings"
	"testing"

	"relay/api"
	"relay/core"
	"relay/graph"
	"relay/graphcore"
	"relay/il"
	"relay/ilcore"
	"relay/sfc"
	"relay/sfccore"
	"relay/value"
)

const stated = "i : INT; d : DINT; b : BOOL; n : LINT; u : ULINT; lv : level; h : high; us : USINT; w : WORD; l : LREAL; a : ARRAY [1..4] OF INT; k : TON; si : SINT; z : INT (5..9);"

// Conditions are BOOLs; statements keep their order and what they have.
func TestStatements(t *testing.T) {
	checkTyped(t, stated, []row{
		{"", ""}, {";", "EMPTY"}, {"RETURN;", "RETURN"}, {"; ; RETURN; ;", "EMPTY; EMPTY; RETURN; EMPTY"},
		{"IF b THEN i := 1; ELSIF i = 1 THEN ; ELSE RETURN; END_IF;", "IF B:BOOL@T2 {I:INT@T0 := INT#1} {IF (I:INT@T0 = INT#1):BOOL {EMPTY} {RETURN}}"},
		{"{BOUND 7} WHILE b DO EXIT; END_WHILE;", "WHILE B:BOOL@T2 x 7 {EXIT}"},
		{"{BOUND 65536} REPEAT i := 1; UNTIL b END_REPEAT;", "REPEAT {I:INT@T0 := INT#1} B:BOOL@T2 x 65536"},
		{"{BOUND 1} WHILE b DO IF b THEN EXIT; END_IF; END_WHILE;", "WHILE B:BOOL@T2 x 1 {IF B:BOOL@T2 {EXIT} {}}"},
	})
	checkFaults(t, stated, []wrong{
		{"IF ^i THEN END_IF;", api.ErrMust}, {"IF ^1 THEN END_IF;", api.ErrMust}, {"IF ^w THEN END_IF;", api.ErrMust}, {"IF ^x THEN y := 1; END_IF;", api.ErrUnknown}, {"IF b THEN ^y := 1; ELSE z1 := 1; END_IF;", api.ErrUnknown}, {"IF b THEN ; ELSE ^z1 := 1; END_IF; y := 1;", api.ErrUnknown},
		{"IF b THEN ; ELSIF ^i THEN ; END_IF;", api.ErrMust},
		{"{BOUND 1} WHILE ^i DO y := 1; END_WHILE;", api.ErrMust}, {"{BOUND 1} WHILE b DO ^y := 1; END_WHILE;", api.ErrUnknown}, {"{BOUND 1} REPEAT ^y := 1; UNTIL i END_REPEAT;", api.ErrUnknown}, {"{BOUND 1} REPEAT ; UNTIL ^i END_REPEAT;", api.ErrMust},
		{"^EXIT;", api.ErrPlace}, {"IF b THEN ^EXIT; END_IF;", api.ErrPlace}, {"CASE i OF 1: ^EXIT; END_CASE;", api.ErrPlace}, {"{BOUND 1} WHILE b DO ; END_WHILE; ^EXIT;", api.ErrPlace}, {"FOR i := 1 TO 2 DO EXIT; END_FOR; ^EXIT;", api.ErrPlace}, {"{BOUND 1} REPEAT EXIT; UNTIL b END_REPEAT; ^EXIT;", api.ErrPlace},
		{"^x := 1; y := 1;", api.ErrUnknown}, {"; i := 1; ^y := 1;", api.ErrUnknown},
	})
}

// A StCase goes by an integer kind, which has all numbers of its ranges.
func TestCase(t *testing.T) {
	checkTyped(t, stated, []row{
		{"CASE i OF END_CASE;", "CASE I:INT@T0 {} {}"},
		{"CASE i + 1 OF 1, 3..5: d := 1; -7..-7: ; ELSE RETURN; END_CASE;", "CASE (I:INT@T0 + INT#1):INT {OF 1..1 3..5 {D:DINT@T1 := DINT#1}; OF -7..-7 {EMPTY}} {RETURN}"},
		{"CASE i OF -32768..32767: ; 1: ; 1: ; END_CASE;", "CASE I:INT@T0 {OF -32768..32767 {EMPTY}; OF 1..1 {EMPTY}; OF 1..1 {EMPTY}} {}"},
		{"CASE us OF 0..255: ; END_CASE;", "CASE US:USINT@T7 {OF 0..255 {EMPTY}} {}"},
		{"CASE u OF 0..2147483648: ; END_CASE;", "CASE U:ULINT@T4 {OF 0..2147483648 {EMPTY}} {}"},
		{"CASE lv OF 0..30000: ; END_CASE;", "CASE LV:INT@T5 {OF 0..30000 {EMPTY}} {}"},
		{"CASE 5 OF 5: ; END_CASE;", "CASE DINT#5 {OF 5..5 {EMPTY}} {}"},
		{"FOR i := 1 TO 2 DO CASE d OF 1: EXIT; END_CASE; END_FOR;", "FOR I:INT@T0 INT#1 by INT#1 x 2 {CASE D:DINT@T1 {OF 1..1 {EXIT}} {}}"},
	})
	checkFaults(t, stated, []wrong{
		{"CASE ^b OF END_CASE;", api.ErrMust}, {"CASE ^w OF 1: x := 1; END_CASE;", api.ErrMust}, {"CASE ^l OF END_CASE;", api.ErrMust}, {"CASE ^x OF END_CASE;", api.ErrUnknown}, {"CASE i ^= 1 OF END_CASE;", api.ErrMust},
		{"CASE i OF ^5..3: ; END_CASE;", api.ErrFixed}, {"CASE i OF ^1, 2, 5..3: y := 1; END_CASE;", api.ErrFixed}, {"CASE i OF ^32768: ; END_CASE;", api.ErrFixed}, {"CASE i OF ^1..32768: ; END_CASE;", api.ErrFixed}, {"CASE i OF ^-32769..5: ; END_CASE;", api.ErrFixed},
		{"CASE us OF ^-1: ; END_CASE;", api.ErrFixed}, {"CASE us OF ^256: ; END_CASE;", api.ErrFixed}, {"CASE u OF ^-1..1: ; END_CASE;", api.ErrFixed}, {"CASE si OF ^128: ; END_CASE;", api.ErrFixed}, {"CASE d OF ^2147483648: ; END_CASE;", api.ErrFixed},
		{"CASE i OF 1: ^y := 1; 5..3: ; ELSE z1 := 1; END_CASE;", api.ErrUnknown}, {"CASE i OF 1: ; ^5..3: ; ELSE z1 := 1; END_CASE;", api.ErrFixed}, {"CASE i OF 1: ; ELSE ^z1 := 1; END_CASE;", api.ErrUnknown},
	})
}

// A StFor's way is known ahead.
func TestFor(t *testing.T) {
	checkTyped(t, stated, []row{
		{"FOR i := 1 TO 10 DO END_FOR;", "FOR I:INT@T0 INT#1 by INT#1 x 10 {}"},
		{"FOR i := 1 TO 10 BY 3 DO END_FOR;", "FOR I:INT@T0 INT#1 by INT#3 x 4 {}"},
		{"FOR i := 1 TO 9 BY 3 DO END_FOR;", "FOR I:INT@T0 INT#1 by INT#3 x 3 {}"},
		{"FOR i := 10 TO 1 BY -3 DO END_FOR;", "FOR I:INT@T0 INT#10 by INT#-3 x 4 {}"},
		{"FOR i := 10 TO 1 DO END_FOR;", "FOR I:INT@T0 INT#10 by INT#1 x 0 {}"},
		{"FOR i := 1 TO 10 BY -1 DO END_FOR;", "FOR I:INT@T0 INT#1 by INT#-1 x 0 {}"},
		{"FOR i := 5 TO 5 BY -9 DO END_FOR;", "FOR I:INT@T0 INT#5 by INT#-9 x 1 {}"},
		{"FOR i := 5 TO 5 BY 9 DO END_FOR;", "FOR I:INT@T0 INT#5 by INT#9 x 1 {}"},
		{"FOR i := 5 TO 6 BY 32767 DO END_FOR;", "FOR I:INT@T0 INT#5 by INT#32767 x 1 {}"},
		{"FOR i := 5 TO 6 BY 32768 DO END_FOR;", "FOR I:INT@T0 INT#5 by LINT#32768 x 1 {}"},
		{"FOR i := -32768 TO 32767 DO END_FOR;", "FOR I:INT@T0 INT#-32768 by INT#1 x 65536 {}"},
		{"FOR i := INT#-2 TO green BY INT#1 DO END_FOR;", "FOR I:INT@T0 INT#-2 by INT#1 x 4 {}"},
		{"FOR i := red TO green BY green DO END_FOR;", "FOR I:INT@T0 INT#0 by INT#1 x 2 {}"},
		{"FOR us := 255 TO 0 BY -5 DO END_FOR;", "FOR US:USINT@T7 USINT#255 by LINT#-5 x 52 {}"},
		{"FOR us := 0 TO 255 BY 256 DO END_FOR;", "FOR US:USINT@T7 USINT#0 by LINT#256 x 1 {}"},
		{"FOR lv := 0 TO 100 BY 50 DO END_FOR;", "FOR LV:INT@T5 INT#0 by INT#50 x 3 {}"},
		{"FOR lv := 100 TO 0 BY -101 DO END_FOR;", "FOR LV:INT@T5 INT#100 by INT#-101 x 1 {}"},
		{"FOR z := 5 TO 9 DO END_FOR;", "FOR Z:INT@T21 INT#5 by INT#1 x 5 {}"},
		{"FOR h := 3 TO 9 BY 2 DO END_FOR;", "FOR H:USINT@T6 USINT#3 by USINT#2 x 4 {}"},
		{"FOR n := -9223372036854775808 TO -1 BY 4611686018427387904 DO END_FOR;", "FOR N:LINT@T3 LINT#-9223372036854775808 by LINT#4611686018427387904 x 2 {}"},
		{"FOR n := 0 TO 9223372036854775807 BY 9223372036854775807 DO END_FOR;", "FOR N:LINT@T3 LINT#0 by LINT#9223372036854775807 x 2 {}"},
		{"FOR n := -1 TO -9223372036854775808 BY -9223372036854775808 DO END_FOR;", "FOR N:LINT@T3 LINT#-1 by LINT#-9223372036854775808 x 1 {}"},
		{"FOR n := 0 TO -9223372036854775808 BY -9223372036854775808 DO END_FOR;", "FOR N:LINT@T3 LINT#0 by LINT#-9223372036854775808 x 2 {}"},
		{"FOR n := 9223372036854775807 TO -1 DO END_FOR;", "FOR N:LINT@T3 LINT#9223372036854775807 by LINT#1 x 0 {}"},
		{"FOR u := 9223372036854775807 TO 9223372036854775800 BY -1 DO END_FOR;", "FOR U:ULINT@T4 ULINT#9223372036854775807 by LINT#-1 x 8 {}"},
		{"FOR i := 1 TO 2 DO FOR d := 1 TO 2 DO a[i] := i; EXIT; END_FOR; EXIT; END_FOR;", "FOR I:INT@T0 INT#1 by INT#1 x 2 {FOR D:DINT@T1 DINT#1 by DINT#1 x 2 {A[I:INT@T0]:INT@T10(1..4) := I:INT@T0; EXIT}; EXIT}"},
		{"FOR i := 1 TO 2 DO END_FOR; i := 1; FOR i := 1 TO 2 DO END_FOR;", "FOR I:INT@T0 INT#1 by INT#1 x 2 {}; I:INT@T0 := INT#1; FOR I:INT@T0 INT#1 by INT#1 x 2 {}"},
		{"FOR d := - -3 TO -0 DO END_FOR;", "FOR D:DINT@T1 DINT#3 by DINT#1 x 0 {}"},
	})
	checkFaults(t, stated, []wrong{
		{"^FOR x := 1 TO 2 DO END_FOR;", api.ErrUnknown}, {"^FOR x := y TO 2 DO z1 := 1; END_FOR;", api.ErrUnknown},
		{"^FOR b := 1 TO 2 DO END_FOR;", api.ErrMust}, {"^FOR w := 1 TO 2 DO END_FOR;", api.ErrMust}, {"^FOR l := y TO 2 DO END_FOR;", api.ErrMust}, {"^FOR a := 1 TO 2 DO END_FOR;", api.ErrMust}, {"^FOR k := 1 TO 2 DO END_FOR;", api.ErrMust},
		{"FOR i := 1 TO 2 DO ^FOR i := 1 TO 2 DO END_FOR; END_FOR;", api.ErrAssign}, {"FOR i := 1 TO 2 DO ^i := 1; END_FOR;", api.ErrAssign}, {"FOR i := 1 TO 2 DO FOR d := 1 TO 2 DO ^i := 1; END_FOR; END_FOR;", api.ErrAssign}, {"FOR i := 1 TO 2 DO {BOUND 1} WHILE b DO IF b THEN ^i := 1; END_IF; END_WHILE; END_FOR;", api.ErrAssign},
		{"FOR i := ^d TO 2 DO END_FOR;", api.ErrFixed}, {"FOR i := ^i TO 2 DO END_FOR;", api.ErrFixed}, {"FOR i := 1 ^+ 1 TO 2 DO END_FOR;", api.ErrFixed}, {"FOR i := ^x TO 2 DO END_FOR;", api.ErrFixed}, {"FOR i := ^DINT#1 TO 2 DO END_FOR;", api.ErrFixed}, {"FOR i := ^-INT#1 TO 2 DO END_FOR;", api.ErrFixed},
		{"FOR i := 1 TO ^none() DO END_FOR;", api.ErrFixed}, {"FOR d := 1 TO ^green DO END_FOR;", api.ErrFixed}, {"FOR i := 1 TO 2 BY ^1.5 DO END_FOR;", api.ErrFixed}, {"FOR i := 1 TO 2 BY ^a[1] DO END_FOR;", api.ErrFixed}, {"FOR i := 1 TO 2 BY ^TRUE DO END_FOR;", api.ErrFixed},
		{"FOR i := ^d TO x BY y DO END_FOR;", api.ErrFixed}, {"FOR i := 40000 TO ^x DO END_FOR;", api.ErrFixed}, {"FOR i := 40000 TO 0 BY ^x DO z1 := 1; END_FOR;", api.ErrFixed},
		{"^FOR i := 32768 TO 2 DO END_FOR;", api.ErrFixed}, {"^FOR i := 2 TO 32768 DO END_FOR;", api.ErrFixed}, {"^FOR us := -1 TO 2 DO END_FOR;", api.ErrFixed}, {"^FOR us := 0 TO 256 BY 999 DO END_FOR;", api.ErrFixed},
		{"^FOR lv := -1 TO 5 DO END_FOR;", api.ErrFixed}, {"^FOR lv := 0 TO 101 DO END_FOR;", api.ErrFixed}, {"^FOR lv := 101 TO 0 DO END_FOR;", api.ErrFixed}, {"^FOR h := 2 TO 5 DO END_FOR;", api.ErrFixed}, {"^FOR h := 9 TO 0 BY -1 DO END_FOR;", api.ErrFixed},
		{"^FOR i := 1 TO 2 BY 0 DO END_FOR;", api.ErrFixed}, {"^FOR i := 2 TO 1 BY 0 DO END_FOR;", api.ErrFixed}, {"^FOR i := 1 TO 2 BY -0 DO END_FOR;", api.ErrFixed},
		{"^FOR d := 0 TO 65536 DO END_FOR;", api.ErrFixed}, {"^FOR d := 65536 TO 0 BY -1 DO z1 := 1; END_FOR;", api.ErrFixed}, {"^FOR d := 0 TO 131072 BY 2 DO END_FOR;", api.ErrFixed}, {"^FOR n := 0 TO -9223372036854775808 BY -1 DO END_FOR;", api.ErrFixed},
		{"^FOR n := -1 TO 9223372036854775807 BY 9223372036854775807 DO END_FOR;", api.ErrFixed}, {"^FOR n := 9223372036854775807 TO -2 BY 1 DO END_FOR;", api.ErrFixed}, {"^FOR n := 1 TO 2 BY 9223372036854775808 DO END_FOR;", api.ErrFixed}, {"^FOR n := 1 TO 2 BY -9223372036854775809 DO END_FOR;", api.ErrFixed},
		{"^FOR u := 9223372036854775808 TO 9223372036854775809 DO END_FOR;", api.ErrFixed}, {"^FOR u := ULINT#18446744073709551615 TO 0 DO END_FOR;", api.ErrFixed}, {"^FOR u := 0 TO ULINT#18446744073709551615 BY 18446744073709551615 DO END_FOR;", api.ErrFixed},
		{"FOR i := 1 TO 2 DO ^z1 := 1; END_FOR;", api.ErrUnknown},
	})
	checkTyped(t, stated, []row{
		{"FOR d := 0 TO 65535 DO END_FOR;", "FOR D:DINT@T1 DINT#0 by DINT#1 x 65536 {}"}, {"FOR d := 0 TO 131071 BY 2 DO END_FOR;", "FOR D:DINT@T1 DINT#0 by DINT#2 x 65536 {}"},
	})
	got := placed(body(t, stated, "FOR i := 1 TO 5 BY -2 DO ; END_FOR; FOR d := -3 TO 5 DO ; END_FOR;"))
	if want := "1:FOR I:INT@T0 10:INT#1 by 20:INT#-2 x 0 {26:EMPTY}; 37:FOR D:DINT@T1 46:DINT#-3 by 0:DINT#1 x 9 {57:EMPTY}"; got != want {
		t.Errorf("\n got %s\nwant %s", got, want)
	}
}

// Which variables a StFor may have.
func TestForVariables(t *testing.T) {
	vars := "VAR b : BOOL; m : blk; END_VAR VAR_INPUT in : INT; END_VAR VAR_OUTPUT out : INT; END_VAR VAR CONSTANT c : INT; END_VAR VAR_EXTERNAL g : INT; gc : INT; END_VAR VAR_TEMP tmp : DINT; END_VAR"
	checkTyped(t, vars, []row{
		{"FOR out := 1 TO 2 DO END_FOR;", "TMP:DINT@T12 := DINT#0; FOR OUT:INT@T10 INT#1 by INT#1 x 2 {}"},
		{"FOR g := 1 TO 2 DO END_FOR;", "TMP:DINT@T12 := DINT#0; FOR G:INT@G0 INT#1 by INT#1 x 2 {}"},
		{"FOR tmp := 1 TO 2 DO END_FOR;", "TMP:DINT@T12 := DINT#0; FOR TMP:DINT@T12 DINT#1 by DINT#1 x 2 {}"},
	})
	checkFaults(t, vars, []wrong{
		{"^FOR in := 1 TO 2 DO END_FOR;", api.ErrAssign}, {"^FOR c := 1 TO 2 DO END_FOR;", api.ErrAssign}, {"^FOR gc := 1 TO 2 DO END_FOR;", api.ErrAssign}, {"^FOR red := 1 TO 2 DO END_FOR;", api.ErrAssign},
		{"FOR g := 1 TO 2 DO ^g := 1; END_FOR;", api.ErrAssign}, {"FOR g := 1 TO 2 DO m(r := ^g); END_FOR;", api.ErrAssign}, {"^FOR in := x TO 2 DO END_FOR;", api.ErrAssign},
	})
	src := "FUNCTION f : INT VAR_IN_OUT r : INT; END_VAR FOR r := 1 TO 2 DO END_FOR; END_FUNCTION"
	p, bodies := parsed(t, src)
	checkFault(t, src, p, bodies, 0, 1, api.ErrAssign)
	p, bodies = parsed(t, "FUNCTION f : INT FOR f := 1 TO 2 DO END_FOR; END_FUNCTION")
	codes, _, err := core.Check(p, bodies)
	if err != nil || typed(codes[0].Body) != "F:INT@T0 := INT#0; FOR F:INT@T0 INT#1 by INT#1 x 2 {}" {
		t.Error(codes, err)
	}
}

// All statements keep their places.
func TestStatementsPlaces(t *testing.T) {
	got := placed(body(t, stated, "IF b THEN ; ELSIF b THEN RETURN; END_IF; CASE i OF 1, 2: ; 3: ; ELSE ; END_CASE; {BOUND 1} WHILE b DO EXIT; END_WHILE; {BOUND 1} REPEAT ; UNTIL b END_REPEAT;"))
	want := "1:IF 4:B:BOOL@T2 {11:EMPTY} {13:IF 19:B:BOOL@T2 {26:RETURN} {}}; 42:CASE 47:I:INT@T0 {52:OF 1..1 2..2 {58:EMPTY}; 60:OF 3..3 {63:EMPTY}} {70:EMPTY}; 82:WHILE 98:B:BOOL@T2 x 1 {103:EXIT}; 120:REPEAT {137:EMPTY} 145:B:BOOL@T2 x 1"
	if got != want {
		t.Errorf("\n got %s\nwant %s", got, want)
	}
	p, _ := parsed(t, "PROGRAM p END_PROGRAM")
	codes, _, err := core.Check(p, [][]api.Stmt{jumps(">L ?L ; L:")})
	if err != nil || placed(codes[0].Body) != "1:JUMP L ; 2:JUMP L 0:BOOL#TRUE; 3:EMPTY; 4:L:" {
		t.Error(codes, err)
	}
}

// jumps is statements with labels and jumps: "L:" a label, ">L" a jump, "?L" one with a condition, "!L" one with a wrong one, "[" and "]" a StIf around; places are counted from 1 on.
func jumps(text string) []api.Stmt {
	stack := [][]api.Stmt{nil}
	put := func(s api.Stmt) { stack[len(stack)-1] = append(stack[len(stack)-1], s) }
	truth := api.Expr{Op: api.ExLit, Value: value.Bool(true)}
	for i, w := range strings.Fields(text) {
		name := strings.Trim(w, ":>?!")
		switch s := (api.Stmt{At: i + 1, Name: name}); {
		case strings.HasSuffix(w, ":"):
			s.Op = api.StLabel
			put(s)
		case w == "[":
			stack = append(stack, nil)
		case w == "]":
			inner := stack[len(stack)-1]
			stack = stack[:len(stack)-1]
			put(api.Stmt{Op: api.StIf, Exprs: []api.Expr{truth}, Body: inner})
		case w == ";":
			put(api.Stmt{Op: api.StEmpty, At: i + 1})
		case w == "x":
			put(api.Stmt{Op: api.StSet, At: i + 1, Exprs: []api.Expr{{Op: api.ExName, Name: "NO", At: i + 1}, truth}})
		default:
			s.Op = api.StJump
			if w[0] != '>' {
				s.Exprs = []api.Expr{truth}
			}
			if w[0] == '!' {
				s.Exprs = []api.Expr{{Op: api.ExLit, At: 99, Value: api.Value{Kind: api.KInt}}}
			}
			put(s)
		}
	}
	return stack[0]
}

// Labels stand once in a list, further on than the jumps to them.
func TestLabels(t *testing.T) {
	p, _ := parsed(t, "PROGRAM p END_PROGRAM")
	for _, x := range []struct{ text, want string }{
		{">L L:", "JUMP L ; L:"}, {">L ; ?L ; L: ;", "JUMP L ; EMPTY; JUMP L BOOL#TRUE; EMPTY; L:; EMPTY"}, {"M: L:", "M:; L:"},
		{">M >L L: M:", "JUMP M ; JUMP L ; L:; M:"}, {"[ >L L: ] >L L:", "IF BOOL#TRUE {JUMP L ; L:} {}; JUMP L ; L:"}, {"L: [ L: ]", "L:; IF BOOL#TRUE {L:} {}"},
	} {
		codes, pou, err := core.Check(p, [][]api.Stmt{jumps(x.text)})
		if err != nil || pou != 0 || typed(codes[0].Body) != x.want {
			t.Error(x.text, codes, err)
		}
	}
	for _, x := range []struct {
		text string
		at   int
		why  api.Errno
	}{
		{">L", 1, api.ErrLabel}, {"L: >L", 2, api.ErrLabel}, {"L: ; ?L", 3, api.ErrLabel}, {">M L:", 1, api.ErrLabel}, {"L: L:", 2, api.ErrLabel}, {">L L: ; L: L:", 4, api.ErrLabel},
		{"[ >L ] L:", 2, api.ErrLabel}, {">L [ L: ]", 1, api.ErrLabel}, {"L: >L L:", 3, api.ErrLabel}, {"L: >M L:", 2, api.ErrLabel}, {"; [ L: L: ]", 4, api.ErrLabel}, {">L x L: L:", 2, api.ErrUnknown},
		{"!L", 1, api.ErrLabel}, {"!L L:", 99, api.ErrMust}, {"!L L: L:", 99, api.ErrMust},
	} {
		checkFault(t, x.text, p, [][]api.Stmt{jumps(x.text)}, 0, x.at, x.why)
	}
}

// Ahead of a body stand the initial values of what keeps nothing.
func TestInitialValues(t *testing.T) {
	p, bodies := parsed(t, prelude+`FUNCTION f : high VAR_INPUT in : INT := 9; END_VAR VAR_IN_OUT r : INT; END_VAR VAR l : INT := 5; a : ARRAY [1..3] OF high := [4, 5]; s : short := 'q'; u : STRING; n : INT (-9..-5); END_VAR VAR CONSTANT c : BOOL := TRUE; END_VAR VAR_TEMP t : LREAL := 1.5; END_VAR ; END_FUNCTION
FUNCTION_BLOCK b VAR_INPUT in : INT := 9; END_VAR VAR_OUTPUT o : INT := 3; END_VAR VAR l : INT := 5; END_VAR VAR_TEMP t : ARRAY [0..1] OF DINT; x : INT (5..9); END_VAR VAR k : TON; END_VAR VAR_TEMP e : color := green; END_VAR ; END_FUNCTION_BLOCK
PROGRAM p VAR l : INT := 5; END_VAR VAR_EXTERNAL g : INT; END_VAR VAR_TEMP d : TIME := T#1s; END_VAR ; END_PROGRAM `+config)
	codes, _, err := core.Check(p, bodies)
	if err != nil {
		t.Fatal(err)
	}
	for i, want := range []string{
		"0:0:F:USINT@T0 := 0:USINT#3 3..9; 0:0:L:INT@T3 := 0:INT#5; 0:0:A:USINT@T4 := 0:USINT#4 3..9; 0:0:A:USINT@T5 := 0:USINT#5 3..9; 0:0:A:USINT@T6 := 0:USINT#3 3..9; 0:0:S:STRING@T7 := 0:STRING#q 4 bytes; 0:0:U:STRING@T8 := 0:STRING# 254 bytes; 0:0:N:INT@T9 := 0:INT#-9 -9..-5; 0:0:C:BOOL@T10 := 0:BOOL#TRUE; 0:0:T:LREAL@T11 := 0:LREAL#16#3FF8000000000000; 1:EMPTY",
		"0:0:T:DINT@T3 := 0:DINT#0; 0:0:T:DINT@T4 := 0:DINT#0; 0:0:X:INT@T5 := 0:INT#5 5..9; 0:0:E:INT@T12 := 0:INT#1 0..1; 1:EMPTY",
		"0:0:D:TIME@T1 := 0:TIME#1000000000; 1:EMPTY",
	} {
		if got := placed(codes[under+i].Body); got != want {
			t.Errorf("\n got %s\nwant %s", got, want)
		}
	}
}

// Of a subrange the initial value is 0, if that lies in it, else its least number.
func TestInitialOfSubranges(t *testing.T) {
	for of, want := range map[string]string{
		"INT (0..5)": "INT#0 0..5", "INT (1..5)": "INT#1 1..5", "INT (-5..0)": "INT#0 -5..0", "INT (-5..-1)": "INT#-5 -5..-1", "SINT (-5..5)": "SINT#0 -5..5", "ULINT (9..9)": "ULINT#9 9..9",
	} {
		p, bodies := parsed(t, "FUNCTION f : "+of+" VAR_INPUT x : "+of+"; END_VAR END_FUNCTION FUNCTION g : BOOL VAR i : "+of+"; END_VAR i := f(); END_FUNCTION")
		codes, _, err := core.Check(p, bodies)
		if err != nil {
			t.Fatal(of, err)
		}
		k, _, _ := strings.Cut(want, "#")
		if got := typed(codes[0].Body); got != "F:"+k+"@T0 := "+want {
			t.Error(got)
		}
		number, bounds, _ := strings.Cut(want, " ")
		if got := typed(codes[1].Body); got != "G:BOOL@T0 := BOOL#FALSE; I:"+k+"@T1 := "+want+"; I:"+k+"@T1 := F#0@0{1:"+k+"("+bounds+")="+number+"}:"+k+" "+bounds {
			t.Error(got)
		}
	}
}

// How long a text may be.
func TestLengths(t *testing.T) {
	for of, want := range map[string]string{"STRING": "254", "STRING[1]": "1", "STRING[2]": "2", "STRING[254]": "254"} {
		if got := typed(soleBody(t, "s : "+of+";", "s := 'a';")); got != "S:STRING@T0 := STRING#a "+want+" bytes" {
			t.Error(got)
		}
	}
}

// Of each kind the initial value is that of value.Zero.
func TestZeros(t *testing.T) {
	for k := api.KBool; k <= api.KString; k++ {
		p, bodies := parsed(t, "FUNCTION f : "+value.Word(k)+" END_FUNCTION")
		codes, _, err := core.Check(p, bodies)
		if err != nil || len(codes[0].Body) != 1 || codes[0].Body[0].Exprs[1].Value != value.Zero(k) || codes[0].Body[0].Kind != k {
			t.Error(k, codes, err)
		}
	}
}

// Bodies in the other languages, with their hidden variables behind a POU's own.
func TestOtherLanguages(t *testing.T) {
	hidden := func(vars string, l []api.Stmt, more []api.Var, err error) string {
		t.Helper()
		if err != nil {
			t.Fatal(err)
		}
		p, _ := parsed(t, "PROGRAM p "+sections(vars)+" END_PROGRAM")
		p.Pous[0].Vars = append(p.Pous[0].Vars, more...)
		codes, _, err := core.Check(p, [][]api.Stmt{l})
		if err != nil {
			t.Fatal(vars, err)
		}
		return typed(codes[0].Body)
	}
	lines, _ := il.Parse("LD a\nJMPC l\nLD n\nADD 1\nST n\nl: LD b\nS a")
	l, v, err := ilcore.Trees(lines)
	if got, want := hidden("a, b : BOOL; n : INT;", l, v, err), "_ACC:BOOL@T3 := BOOL#FALSE; _ACC:BOOL@T3 := A:BOOL@T0; JUMP L _ACC:BOOL@T3; N:INT@T2 := (N:INT@T2 + INT#1):INT; L:; _ACC:BOOL@T3 := B:BOOL@T1; IF _ACC:BOOL@T3 {A:BOOL@T0 := BOOL#TRUE} {}"; got != want {
		t.Errorf("\n got %s\nwant %s", got, want)
	}
	rungs, _ := graph.Ladder("RUNG +a !k.Q => q;")
	l, v, err = graphcore.Ladder(rungs)
	if got, want := hidden("a, q : BOOL; k : TON;", l, v, err), "_E1:BOOL@T8 := BOOL#FALSE; _R1:BOOL@T10 := BOOL#FALSE; _E1:BOOL@T8 := (A:BOOL@T0 AND (NOT _P1:BOOL@T9):BOOL):BOOL; _P1:BOOL@T9 := A:BOOL@T0; _R1:BOOL@T10 := (_E1:BOOL@T8 AND (NOT K.Q:BOOL@T4):BOOL):BOOL; Q:BOOL@T1 := _R1:BOOL@T10"; got != want {
		t.Errorf("\n got %s\nwant %s", got, want)
	}
	nets, _ := graph.Networks("NETWORK n : INT := ADD(i, 1); m : BOOL := NOT(b); n => i; k(IN := m); END_NETWORK")
	l, v, err = graphcore.Networks(nets)
	if got, want := hidden("b : BOOL; i : INT; k : TON;", l, v, err), "_N1:INT@T8 := INT#0; _N2:BOOL@T9 := BOOL#FALSE; _N1:INT@T8 := ADD#1(I:INT@T1, INT#1):INT; _N2:BOOL@T9 := NOT#9(B:BOOL@T0):BOOL; I:INT@T1 := _N1:INT@T8; K.IN:BOOL@T2 := _N2:BOOL@T9; CALL K@T2 #-9"; got != want {
		t.Errorf("\n got %s\nwant %s", got, want)
	}
	chart, _ := sfc.Parse("INITIAL_STEP a: v(D, T#5ns); END_STEP TRANSITION FROM a TO a := v AND a.t > T#1s; END_TRANSITION")
	l, v, err = sfccore.Chart(chart)
	got := hidden("v : BOOL;", l, v, err)
	for _, want := range []string{"_F1:BOOL@T3 := BOOL#FALSE; _Q1:BOOL@T10 := BOOL#FALSE; _F1:BOOL@T3 := (_X1:BOOL@T1 AND (V:BOOL@T0 AND (_T1.ET:TIME@T14 > TIME#1000000000):BOOL):BOOL):BOOL", "_D1.IN:BOOL@T4 := _X1:BOOL@T1; _D1.PT:TIME@T5 := TIME#5; CALL _D1@T4 #-9", "; V:BOOL@T0 := _Q1:BOOL@T10;", "_T1.PT:TIME@T12 := TIME#9223372036854775807; CALL _T1@T11 #-9"} {
		if !strings.Contains(got, want) {
			t.Errorf("%s\nnot in %s", want, got)
		}
	}
}
