package core_test

import (
	"fmt"
	"strconv"
	"strings"
	"testing"

	"relay/api"
	"relay/core"
	"relay/st"
	"relay/value"
)

// wider is all kinds that each one widens to, as chapter 15 lists them.
var wider = map[string]string{
	"SINT": "INT DINT LINT LREAL", "INT": "DINT LINT LREAL", "DINT": "LINT LREAL",
	"USINT": "UINT UDINT ULINT INT DINT LINT LREAL", "UINT": "UDINT ULINT DINT LINT LREAL", "UDINT": "ULINT LINT LREAL",
	"BYTE": "WORD DWORD LWORD", "WORD": "DWORD LWORD", "DWORD": "LWORD",
}

func widens(from, to string) bool {
	return from != "" && to != "" && strings.Contains(" "+wider[from]+" ", " "+to+" ")
}

// P15.2: over all numbers that a Kind can have.
func TestWidens(t *testing.T) {
	for from := range 256 {
		for to := range 256 {
			a, b := api.Kind(from), api.Kind(to)
			if got, want := core.Widens(a, b), widens(value.Word(a), value.Word(b)); got != want {
				t.Error(from, to, got)
			}
		}
	}
}

// The chapter's examples.
func TestExamples(t *testing.T) {
	vars := "i : INT; d : DINT; l : LREAL; t : TIME;"
	checkTyped(t, vars, []row{
		{"i := i + 1;", "I:INT@T0 := (I:INT@T0 + INT#1):INT"},
		{"d := i;", "D:DINT@T1 := TO DINT(I:INT@T0)"},
		{"l := 1;", "L:LREAL@T2 := LREAL#16#3FF0000000000000"},
		{"t := t * i;", "T:TIME@T3 := (T:TIME@T3 * TO LINT(I:INT@T0)):TIME"},
		{"t := t * 2;", "T:TIME@T3 := (T:TIME@T3 * LINT#2):TIME"},
	})
	checkFaults(t, vars, []wrong{{"i := ^d;", api.ErrMust}, {"i := ^40000;", api.ErrMust}})
}

// kinds is the words of all kinds.
func kinds() []string {
	var l []string
	for k := api.KBool; k <= api.KString; k++ {
		l = append(l, value.Word(k))
	}
	return l
}

// limits is the least and the greatest number of each kind that a number without a kind is taken for.
var limits = map[string][2]string{
	"SINT": {"-128", "127"}, "INT": {"-32768", "32767"}, "DINT": {"-2147483648", "2147483647"}, "LINT": {"-9223372036854775808", "9223372036854775807"},
	"USINT": {"0", "255"}, "UINT": {"0", "65535"}, "UDINT": {"0", "4294967295"}, "ULINT": {"0", "18446744073709551615"},
	"BYTE": {"0", "255"}, "WORD": {"0", "65535"}, "DWORD": {"0", "4294967295"}, "LWORD": {"0", "18446744073709551615"},
	"LREAL": {"-9007199254740992", "9007199254740992"},
}

// beyond is the number behind the one of a text, away from 0.
func beyond(n string) string {
	digits := []byte(n)
	for i := len(digits) - 1; ; i-- {
		if digits[i]++; digits[i] <= '9' {
			return string(digits)
		}
		digits[i] = '0'
	}
}

// literalOf is the typed text of a number as a literal of a kind.
func literalOf(kind, n string) string {
	below := strings.HasPrefix(n, "-")
	size, _ := strconv.ParseUint(strings.TrimPrefix(n, "-"), 10, 64)
	k, _ := value.Kind(kind)
	switch {
	case kind == "LREAL" && below:
		return "LREAL#" + value.Print(value.Lreal(-float64(size)))
	case kind == "LREAL":
		return "LREAL#" + value.Print(value.Lreal(float64(size)))
	case below:
		size = -size
	}
	return kind + "#" + value.Print(api.Value{Kind: k, Bits: size})
}

// Numbers without a kind of each wanted kind, at its edges and beyond.
func TestFreeNumbers(t *testing.T) {
	for _, k := range kinds() {
		vars, lim := "x : "+k+";", limits[k]
		if lim[0] == "" {
			checkFaults(t, vars, []wrong{{"x := ^0;", api.ErrMust}, {"x := ^1;", api.ErrMust}, {"x := ^-1;", api.ErrMust}})
			continue
		}
		to := func(n string) string { return "X:" + k + "@T0 := " + literalOf(k, n) }
		checkTyped(t, vars, []row{
			{"x := " + lim[0] + ";", to(lim[0])}, {"x := " + lim[1] + ";", to(lim[1])},
			{"x := 0;", to("0")}, {"x := -0;", to("0")}, {"x := - - 5;", to("5")}, {"x := - - - 0;", to("0")}, {"x := 16#7F;", to("127")},
		})
		if lim[1] != "18446744073709551615" {
			checkFaults(t, vars, []wrong{{"x := ^" + beyond(lim[1]) + ";", api.ErrMust}})
		}
		if lim[0] == "0" {
			checkFaults(t, vars, []wrong{{"x := ^-1;", api.ErrMust}, {"x := ^- - -1;", api.ErrMust}, {"x := ^-18446744073709551615;", api.ErrMust}})
		} else {
			checkFaults(t, vars, []wrong{{"x := ^" + beyond(lim[0]) + ";", api.ErrMust}, {"x := ^-18446744073709551615;", api.ErrMust}})
			checkTyped(t, vars, []row{{"x := -5;", to("-5")}, {"x := - - -5;", to("-5")}})
		}
	}
}

// Where no kind is wanted a number is the first of DINT, LINT and ULINT that has it.
func TestFreeNumbersOfNone(t *testing.T) {
	for _, x := range []struct{ n, kind string }{
		{"0", "DINT"}, {"2147483647", "DINT"}, {"-2147483648", "DINT"}, {"2147483648", "LINT"}, {"-2147483649", "LINT"},
		{"9223372036854775807", "LINT"}, {"-9223372036854775808", "LINT"}, {"9223372036854775808", "ULINT"}, {"18446744073709551615", "ULINT"},
	} {
		checkTyped(t, "b : BOOL;", []row{
			{"b := " + x.n + " = " + x.n + ";", "B:BOOL@T0 := (" + literalOf(x.kind, x.n) + " = " + literalOf(x.kind, x.n) + "):BOOL"},
			{"CASE " + x.n + " OF END_CASE;", "CASE " + literalOf(x.kind, x.n) + " {} {}"},
			{"b := TO_BOOL(" + x.n + ");", "B:BOOL@T0 := TO_BOOL#65(" + literalOf(x.kind, x.n) + "):BOOL"},
		})
	}
	checkFaults(t, "b : BOOL;", []wrong{
		{"b := ^-9223372036854775809 = 0;", api.ErrMust}, {"b := 0 = ^-18446744073709551615;", api.ErrMust}, {"CASE ^-9223372036854775809 OF END_CASE;", api.ErrMust},
		// A ULINT and a DINT: neither widens to the other one.
		{"b := - -18446744073709551615 ^> -0;", api.ErrMust},
	})
}

// line is the kind that chapter 1's table has for an operation of two kinds; empty, if there is no line.
func line(op, a, b string) string {
	isInt := strings.HasSuffix(a, "INT")
	isRow := a == "BYTE" || strings.HasSuffix(a, "WORD")
	switch {
	case strings.Contains(" = <> < <= > >= ", " "+op+" ") && a == b:
		return "BOOL"
	case strings.Contains(" + - * / MOD ", " "+op+" ") && isInt && a == b:
		return a
	case strings.Contains(" + - * / ", " "+op+" ") && a == "LREAL" && b == "LREAL":
		return a
	case strings.Contains(" AND OR XOR ", " "+op+" ") && a == b && (isRow || a == "BOOL"):
		return a
	}
	switch op + " " + a + " " + b {
	case "+ TIME TIME", "- TIME TIME", "- DATE DATE", "- TOD TOD", "- DT DT", "* TIME LINT", "/ TIME LINT":
		return "TIME"
	case "+ DT TIME", "- DT TIME":
		return "DT"
	case "+ TOD TIME", "- TOD TIME":
		return "TOD"
	}
	return ""
}

// Each operation of each two kinds: as the table has it, or with one operand converted.
func TestOperations(t *testing.T) {
	converted := map[string]int{}
	for _, a := range kinds() {
		for _, b := range kinds() {
			for _, op := range signs[1:] {
				left, right, toA, toB := "A:"+a+"@T0", "B:"+b+"@T1", a, b
				switch {
				case line(op, a, b) != "":
				case widens(a, b):
					left, toA = "TO "+b+"("+left+")", b
				case widens(b, a):
					right, toB = "TO "+a+"("+right+")", a
				case (op == "*" || op == "/") && a == "TIME" && strings.HasSuffix(b, "INT"):
					right, toB = "TO LINT("+right+")", "LINT"
				}
				gives := line(op, toA, toB)
				vars := "a : " + a + "; b : " + b + "; r : " + gives + ";"
				if gives == "" {
					// Around it stands a call that would take any kind, at another place.
					checkSoleFault(t, strings.Replace(vars, "r : ;", "r : BOOL;", 1), "r := MOVE(a ^"+op+" b);", api.ErrMust)
					continue
				}
				converted[toA+toB]++
				want := "R:" + gives + "@T2 := (" + left + " " + op + " " + right + "):" + gives
				if got := typed(soleBody(t, vars, "r := a "+op+" b;")); got != want {
					t.Errorf("%s, not %s", got, want)
				}
			}
		}
	}
	if converted["LREALLREAL"] != 10*13 || converted["TIMELINT"] != 2*8 {
		t.Error(converted)
	}
}

// soleBody is the typed statements of a program that is alone.
func soleBody(t *testing.T, vars, text string) []api.Stmt {
	t.Helper()
	p, bodies := parsed(t, "PROGRAM p "+sections(vars)+" "+text+" END_PROGRAM")
	codes, pou, err := core.Check(p, bodies)
	if err != nil || pou != 0 || len(codes) != 1 {
		t.Fatal(vars, text, pou, err)
	}
	return codes[0].Body
}

func checkSoleFault(t *testing.T, vars, text string, why api.Errno) {
	t.Helper()
	p, bodies := parsed(t, "PROGRAM p "+sections(vars)+" "+strings.Replace(text, "^", "", 1)+" END_PROGRAM")
	checkFault(t, vars+text, p, bodies, 0, strings.Index(text, "^")+1, why)
}

// One free number in an operation has the other operand's kind, if that is one of numbers; beside a TIME it is a LINT.
func TestOneFreeNumber(t *testing.T) {
	for _, k := range kinds() {
		for _, op := range signs[1:] {
			takes, isScaled := limits[k][0] != "", k == "TIME" && (op == "*" || op == "/")
			vars, left, right := "a : "+k+"; r : BOOL;", "r := MOVE(^5 "+op+" a);", "r := MOVE(a "+op+" ^5);"
			if !takes {
				checkSoleFault(t, vars, left, api.ErrMust)
			}
			if !takes && !isScaled {
				checkSoleFault(t, vars, right, api.ErrMust)
			}
			if takes && line(op, k, k) == "" {
				checkSoleFault(t, vars, "r := MOVE(5 ^"+op+" a);", api.ErrMust)
				checkSoleFault(t, vars, "r := MOVE(a ^"+op+" 5);", api.ErrMust)
			}
			gives, number := line(op, k, k), ""
			if takes {
				number = literalOf(k, "5")
			}
			if isScaled {
				gives, number = "TIME", "LINT#5"
			}
			if gives == "" || number == "" {
				continue
			}
			vars = "a : " + k + "; r : " + gives + ";"
			if got, want := typed(soleBody(t, vars, "r := a "+op+" 5;")), "R:"+gives+"@T1 := (A:"+k+"@T0 "+op+" "+number+"):"+gives; got != want {
				t.Errorf("%s, not %s", got, want)
			}
			if isScaled {
				continue
			}
			if got, want := typed(soleBody(t, vars, "r := 5 "+op+" a;")), "R:"+gives+"@T1 := ("+number+" "+op+" A:"+k+"@T0):"+gives; got != want {
				t.Errorf("%s, not %s", got, want)
			}
		}
	}
	// The other one is looked at first, wherever it stands; and the wanted kind plays no part.
	checkFaults(t, "i : INT; d : DINT; t : TIME;", []wrong{
		{"d := 3000000000 + ^x;", api.ErrUnknown}, {"d := ^3000000000 + d;", api.ErrMust}, {"d := ^40000 + i;", api.ErrMust}, {"d := i + ^40000;", api.ErrMust},
		{"t := ^2 * t;", api.ErrMust}, {"t := t + ^2;", api.ErrMust}, {"t := t * ^9223372036854775808;", api.ErrMust}, {"t := i ^* t;", api.ErrMust}, {"i := ^-32769 - i;", api.ErrMust},
	})
	checkTyped(t, "i : INT; d : DINT; t : TIME; u : ULINT;", []row{
		{"d := i + 4;", "D:DINT@T1 := TO DINT((I:INT@T0 + INT#4):INT)"},
		{"d := -4 + i;", "D:DINT@T1 := TO DINT((INT#-4 + I:INT@T0):INT)"},
		{"t := t / -2;", "T:TIME@T2 := (T:TIME@T2 / LINT#-2):TIME"},
		{"t := t / u;", "T:TIME@T2 := (T:TIME@T2 / TO LINT(U:ULINT@T3)):TIME"},
		{"i := (i + 1) * 2;", "I:INT@T0 := ((I:INT@T0 + INT#1):INT * INT#2):INT"},
		{"d := (1 + 2) + 3;", "D:DINT@T1 := ((DINT#1 + DINT#2):DINT + DINT#3):DINT"},
	})
	// What is no number by itself has a kind: a DINT here.
	checkFaults(t, "i : INT;", []wrong{{"i := (1 + 2) ^+ 3;", api.ErrMust}, {"i := (1 + 2) ^+ i;", api.ErrMust}})
	checkTyped(t, "i : INT; d : DINT;", []row{{"d := (1 + 2) + i;", "D:DINT@T1 := ((DINT#1 + DINT#2):DINT + TO DINT(I:INT@T0)):DINT"}})
}

// Two free numbers are of the wanted kind, if that is an integer's or LREAL, else of none.
func TestTwoFreeNumbers(t *testing.T) {
	for _, k := range kinds() {
		vars := "r : " + k + ";"
		switch {
		case strings.HasSuffix(k, "INT") || k == "LREAL":
			l, m := literalOf(k, "6"), literalOf(k, "2")
			checkTyped(t, vars, []row{{"r := 6 / 2;", "R:" + k + "@T0 := (" + l + " / " + m + "):" + k}})
			checkFaults(t, vars, []wrong{{"r := 6 ^= 2;", api.ErrMust}})
		case k == "BOOL":
			checkTyped(t, vars, []row{{"r := 6 = 2;", "R:BOOL@T0 := (DINT#6 = DINT#2):BOOL"}})
			checkFaults(t, vars, []wrong{{"r := 6 ^+ 2;", api.ErrMust}, {"r := 6 ^AND 2;", api.ErrMust}})
		default:
			checkFaults(t, vars, []wrong{{"r := 6 ^+ 2;", api.ErrMust}, {"r := 6 ^OR 2;", api.ErrMust}})
		}
	}
	checkFaults(t, "i : INT; l : LREAL; b : BOOL;", []wrong{
		{"i := ^40000 - 39999;", api.ErrMust}, {"i := 1 - ^40000;", api.ErrMust}, {"l := ^9007199254740993 - 1;", api.ErrMust}, {"l := 1 ^MOD 2;", api.ErrMust},
	})
	checkTyped(t, "i : INT; d : DINT; b : BOOL;", []row{
		{"i := -(1 + 2);", "I:INT@T0 := (-(INT#1 + INT#2):INT):INT"},
		{"b := 3000000000 > 1;", "B:BOOL@T2 := (LINT#3000000000 > TO LINT(DINT#1)):BOOL"},
		{"b := 1 > 3000000000;", "B:BOOL@T2 := (TO LINT(DINT#1) > LINT#3000000000):BOOL"},
	})
}

// OpNeg and OpNot of each kind; the operand is wanted as the whole is.
func TestTurned(t *testing.T) {
	neg := " SINT INT DINT LINT TIME LREAL "
	not := " BOOL BYTE WORD DWORD LWORD "
	for _, k := range kinds() {
		vars := "a : " + k + "; r : " + k + "; s : BOOL;"
		if strings.Contains(neg, " "+k+" ") {
			checkTyped(t, vars, []row{{"r := -a;", "R:" + k + "@T1 := (-A:" + k + "@T0):" + k}})
		} else {
			checkFaults(t, vars, []wrong{{"s := MOVE(^-a);", api.ErrMust}})
		}
		if strings.Contains(not, " "+k+" ") {
			checkTyped(t, vars, []row{{"r := NOT a;", "R:" + k + "@T1 := (NOT A:" + k + "@T0):" + k}})
		} else {
			checkFaults(t, vars, []wrong{{"s := MOVE(^NOT a);", api.ErrMust}})
		}
	}
	checkTyped(t, "i : INT; d : DINT; w : WORD; y : BYTE; u : USINT;", []row{
		{"d := -i;", "D:DINT@T1 := (-TO DINT(I:INT@T0)):DINT"},
		{"d := -u;", "D:DINT@T1 := (-TO DINT(U:USINT@T4)):DINT"},
		{"w := NOT y;", "W:WORD@T2 := (NOT TO WORD(Y:BYTE@T3)):WORD"},
		{"w := NOT 5;", "W:WORD@T2 := (NOT WORD#16#5):WORD"},
		{"w := NOT NOT 5;", "W:WORD@T2 := (NOT (NOT WORD#16#5):WORD):WORD"},
		{"d := -INT#5;", "D:DINT@T1 := (-TO DINT(INT#5)):DINT"},
	})
	checkFaults(t, "i : INT; d : DINT; b : BOOL;", []wrong{
		{"i := -^d;", api.ErrMust}, {"b := NOT ^i;", api.ErrMust}, {"b := ^NOT 5 = 5;", api.ErrMust}, {"i := ^NOT i;", api.ErrMust}, {"b := ^-b + 1;", api.ErrMust}, {"b := ^-b;", api.ErrMust},
	})
}

// Behind it all an expression of a narrower kind is converted to the wanted one, and no other.
func TestWanted(t *testing.T) {
	for _, from := range kinds() {
		for _, to := range kinds() {
			vars, text := "a : "+from+"; r : "+to+";", "r := ^a;"
			switch {
			case from == to:
				if got := typed(soleBody(t, vars, "r := a;")); !strings.HasPrefix(got, "R:"+to+"@T1 := A:"+from+"@T0") {
					t.Error(got)
				}
			case widens(from, to):
				if got := typed(soleBody(t, vars, "r := a;")); got != "R:"+to+"@T1 := TO "+to+"(A:"+from+"@T0)" {
					t.Error(got)
				}
			default:
				checkSoleFault(t, vars, text, api.ErrMust)
			}
		}
	}
}

// Literals with kinds and names of values are their values.
func TestLiterals(t *testing.T) {
	checkTyped(t, "i : INT; d : DINT; b : BOOL; s : STRING; t : TIME; l : LREAL; w : WORD; c : color;", []row{
		{"i := INT#-7;", "I:INT@T0 := INT#-7"}, {"d := SINT#5;", "D:DINT@T1 := TO DINT(SINT#5)"}, {"b := TRUE;", "B:BOOL@T2 := BOOL#TRUE"},
		{"s := 'abc';", "S:STRING@T3 := STRING#abc 254 bytes"}, {"t := T#1s;", "T:TIME@T4 := TIME#1000000000"}, {"l := 1.5;", "L:LREAL@T5 := LREAL#16#3FF8000000000000"},
		{"w := BYTE#255;", "W:WORD@T6 := TO WORD(BYTE#16#FF)"}, {"i := green;", "I:INT@T0 := INT#1"}, {"d := green;", "D:DINT@T1 := TO DINT(INT#1)"},
		{"c := red;", "C:INT@T7 := INT#0 0..1"}, {"b := i = green;", "B:BOOL@T2 := (I:INT@T0 = INT#1):BOOL"}, {"b := 5 < green;", "B:BOOL@T2 := (INT#5 < INT#1):BOOL"},
	})
	checkFaults(t, "i : INT; s : STRING;", []wrong{{"i := ^DINT#5;", api.ErrMust}, {"s := ^5;", api.ErrMust}, {"i := ^'5';", api.ErrMust}, {"s := ^red;", api.ErrMust}, {"i := -^DINT#5;", api.ErrMust}})
}

// Each expression keeps its place; what is made for it has none.
func TestPlaces(t *testing.T) {
	got := placed(body(t, "i : INT; d : DINT; a : ARRAY [1..3] OF INT; k : TON;", "d := -a[2] + - 5 * LIMIT(1, i, red); IF k.Q THEN ; END_IF;"))
	want := "1:1:D:DINT@T1 := 0:TO DINT(((6:-7:A[9:DINT#2]:INT@T2(1..3)):INT 12:+ (14:INT#-5 18:* 20:LIMIT#20(26:INT#1, 29:I:INT@T0, 32:INT#0):INT):INT):INT); 38:IF 41:K.Q:BOOL@T7 {50:EMPTY} {}"
	if got != want {
		t.Errorf("\n got %s\nwant %s", got, want)
	}
}

// Deep rows of operations, as lists and ladders make them, are typed soon enough.
func TestDeep(t *testing.T) {
	e := api.Expr{Op: api.ExName, Name: "I"}
	for range 1 << 16 {
		e = api.Expr{Op: api.OpAdd, Kids: []api.Expr{e, {Op: api.ExLit, Value: api.Value{Bits: 1}}}}
	}
	p, _ := parsed(t, "PROGRAM p VAR i : INT; END_VAR END_PROGRAM")
	codes, _, err := core.Check(p, [][]api.Stmt{{{Op: api.StSet, Exprs: []api.Expr{{Op: api.ExName, Name: "I"}, e}}}})
	if err != nil {
		t.Fatal(err)
	}
	depth := 0
	for x := codes[0].Body[0].Exprs[1]; len(x.Kids) > 0; x = x.Kids[0] {
		depth++
		if x.Kind != api.KInt || x.Kids[1].Kind != api.KInt {
			t.Fatal(depth, x.Kind)
		}
	}
	if depth != 1<<16 {
		t.Error(depth)
	}
	for _, x := range []api.Expr{{Op: api.OpNeg}, {Op: api.ExCall, Name: "ABS"}} {
		e := api.Expr{Op: api.ExName, Name: "I"}
		for range 1 << 16 {
			e = api.Expr{Op: x.Op, Name: x.Name, Kids: []api.Expr{e}}
		}
		if _, _, err := core.Check(p, [][]api.Stmt{{{Op: api.StSet, Exprs: []api.Expr{{Op: api.ExName, Name: "I"}, e}}}}); err != nil {
			t.Error(x, err)
		}
	}
	long := "i := i" + strings.Repeat(" + 1", 8000) + ";"
	l, err := st.Parse(long)
	if err != nil {
		t.Fatal(err)
	}
	if _, _, err := core.Check(p, [][]api.Stmt{l}); err != nil {
		t.Error(fmt.Sprint(err))
	}
}
