package ir_test

import (
	"testing"

	"relay/api"
	"relay/listing"
)

// StSet: the index, the right side, its bounds, the store.
func TestSet(t *testing.T) {
	check(t, []row{
		{"", ""},
		{";;", ""},
		{"a[i] := 5;", "load B1 C1; const A1 INT#5; storex A1 B1 C4 L1 H4"},
		{"a[inc(i)] := a[2];", "load B1 C1; store B2 C11; call B2 C2 D10; load A1 B2 C10; const A2 DINT#2; loadx A3 B1 C4 D2 L1 H4; storex A3 B1 C4 D1 L1 H4"},
		{"ga[2] := d;", "const DINT#2; load A1 B1 C2; storex A1 B2 C1 H2"},
		{"lv := i;", "load B1 C1; check H100; store B1 C10"},
		{"s := sh;", "load B1 C9; text H254; store B1 C8"},
		{"sh := s;", "load B1 C8; text H4; store B1 C9"},
		{"la[i] := lv;", "load B1 C1; load A1 B1 C10; check A1 H100; storex A1 B1 C27 L1 H2"},
		{"sa[0] := s;", "const DINT#0; load A1 B1 C8; text A1 H4; storex A1 B1 C29 L-1"},
	})
}

// Returns, and calls of instances: what core puts around them is assignments.
func TestReturnsAndInstances(t *testing.T) {
	check(t, []row{
		{"RETURN;", "return"},
		{"i := 1; RETURN; i := 2;", "const INT#1; store B1 C1; return; const A1 INT#2; store A1 B1 C1"},
		{"k();", "block B9 C1 D11"},
		{"k(IN := b, PT := T#1s, Q => b);", "load B1 C3; store B1 C11; const A1 TIME#1000000000; store A1 B1 C12; block B9 C1 D11; load A2 B1 C13; store A2 B1 C3"},
		{"m(n := 5, r := i, q => d);", "const INT#5; check H100; store B1 C17; ref A1 B1 C1; store A1 B1 C18; call B3 C1 D17; load A2 B1 C19; conv A3 B2 DINT; store A3 B1 C2"},
		{"m(r := a[i]);", "load B1 C1; refx A1 B1 C4 L1 H4; store A1 B1 C18; call B3 C1 D17"},
		{"m(r := g);", "ref B2; store B1 C18; call B3 C1 D17"},
	})
}

func TestIf(t *testing.T) {
	check(t, []row{
		{"IF b THEN END_IF;", "load B1 C3; unless B2"},
		{"IF b THEN i := 1; END_IF;", "load B1 C3; unless B4; const A1 INT#1; store A1 B1 C1"},
		{"IF b THEN i := 1; ELSE i := 2; END_IF;", "load B1 C3; unless B5; const A1 INT#1; store A1 B1 C1; jump B7; const A2 INT#2; store A2 B1 C1"},
		{"IF b THEN ELSE i := 2; END_IF;", "load B1 C3; unless B3; jump B5; const A1 INT#2; store A1 B1 C1"},
		// An Else that does nothing is there all the same.
		{"IF b THEN i := 1; ELSE ; END_IF;", "load B1 C3; unless B5; const A1 INT#1; store A1 B1 C1; jump B5"},
		{"IF b THEN ELSE END_IF;", "load B1 C3; unless B2"},
		{"IF b THEN i := 1; ELSIF NOT b THEN i := 2; ELSE i := 3; END_IF;", "load B1 C3; unless B5; const A1 INT#1; store A1 B1 C1; jump B13; " +
			"load A2 B1 C3; turn A3 B2 not; unless A3 B11; const A4 INT#2; store A4 B1 C1; jump B13; const A5 INT#3; store A5 B1 C1"},
		{"IF b THEN IF b THEN i := 1; END_IF; END_IF; i := 2;", "load B1 C3; unless B6; load A1 B1 C3; unless A1 B6; const A2 INT#1; store A2 B1 C1; const A3 INT#2; store A3 B1 C1"},
	})
}

func TestCase(t *testing.T) {
	check(t, []row{
		{"CASE i OF END_CASE;", "load B1 C1"},
		{"CASE i OF ELSE i := 1; END_CASE;", "load B1 C1; const A1 INT#1; store A1 B1 C1"},
		{"CASE i OF 5: END_CASE;", "load B1 C1; const A1 INT#5; do A2 C1 eq; unless A2 B5; jump B5"},
		{"CASE i OF 5: i := 1; END_CASE;", "load B1 C1; const A1 INT#5; do A2 C1 eq; unless A2 B7; const A3 INT#1; store A3 B1 C1; jump B7"},
		{"CASE i OF 5: i := 1; ELSE i := 2; END_CASE;", "load B1 C1; const A1 INT#5; do A2 C1 eq; unless A2 B7; const A3 INT#1; store A3 B1 C1; jump B9; const A4 INT#2; store A4 B1 C1"},
		{"CASE d OF -3..4: END_CASE;", "load B1 C2; const A1 DINT#-3; do A2 C1 ge; const A3 DINT#4; do A4 C3 le; do A5 B2 C4 and; unless A5 B8; jump B8"},
		{"CASE u OF 7..7: END_CASE;", "load B1 C25; const A1 ULINT#7; do A2 C1 eq; unless A2 B5; jump B5"},
		{"CASE z OF 1, 3..5, 9: END_CASE;", "load B1 C26; const A1 SINT#1; do A2 C1 eq; const A3 SINT#3; do A4 C3 ge; const A5 SINT#5; do A6 C5 le; do A7 B4 C6 and; do A8 B2 C7 or; " +
			"const A9 SINT#9; do A10 C9 eq; do A11 B8 C10 or; unless A11 B14; jump B14"},
		{"CASE 2 OF 1: ; 2: i := 1; ELSE ; END_CASE;", "const DINT#2; const A1 DINT#1; do A2 C1 eq; unless A2 B5; jump B11; const A3 DINT#2; do A4 C3 eq; unless A4 B11; const A5 INT#1; store A5 B1 C1; jump B11"},
	})
}

// loopRow is a row with loops.
type loopRow struct{ body, want, loops string }

func checkLoops(t *testing.T, rows []loopRow) {
	t.Helper()
	for _, r := range rows {
		want := withReturn(r.want, r.loops)
		if got := listing.Text(flat(t, codeOf(t, r.body, under))); got != want {
			t.Errorf("%s\n got %s\nwant %s", r.body, got, want)
		}
	}
}

func TestFor(t *testing.T) {
	checkLoops(t, []loopRow{
		{"FOR i := 1 TO 3 DO g := g + 1; END_FOR;", "const LINT#0; const A1 LINT#3; do A2 C1 lt; unless A2 B18; const A3 LINT#1; do A4 C3 mul; const A5 LINT#1; do A6 B5 C4 add; conv A7 B6 INT; store A7 B1 C1; " +
			"load A8 B2; const A9 INT#1; do A10 B8 C9 add; store A10 B2; const A11 LINT#1; do A12 C11 add; move B12; jump B1", "loop 1 18 3"},
		// No round
		{"FOR d := 3 TO 1 DO END_FOR;", "const LINT#0; const A1 LINT#0; do A2 C1 lt; unless A2 B14; const A3 LINT#1; do A4 C3 mul; const A5 LINT#3; do A6 B5 C4 add; conv A7 B6 DINT; store A7 B1 C2; " +
			"const A8 LINT#1; do A9 C8 add; move B9; jump B1", "loop 1 14 0"},
		// Downwards; by of LINT, as ULINT has none such
		{"FOR u := 9 TO 2 BY -3 DO END_FOR;", "const LINT#0; const A1 LINT#3; do A2 C1 lt; unless A2 B14; const A3 LINT#-3; do A4 C3 mul; const A5 LINT#9; do A6 B5 C4 add; conv A7 B6 ULINT; store A7 B1 C25; " +
			"const A8 LINT#1; do A9 C8 add; move B9; jump B1", "loop 1 14 3"},
		{"FOR z := SINT#-128 TO 127 BY SINT#-1 DO END_FOR;", "const LINT#0; const A1 LINT#0; do A2 C1 lt; unless A2 B14; const A3 LINT#-1; do A4 C3 mul; const A5 LINT#-128; do A6 B5 C4 add; conv A7 B6 SINT; store A7 B1 C26; " +
			"const A8 LINT#1; do A9 C8 add; move B9; jump B1", "loop 1 14 0"},
		// A global variable, one of a subrange (core has looked at it), EXIT and RETURN
		{"FOR g := 1 TO 2 DO EXIT; RETURN; END_FOR; i := 1;", "const LINT#0; const A1 LINT#2; do A2 C1 lt; unless A2 B16; const A3 LINT#1; do A4 C3 mul; const A5 LINT#1; do A6 B5 C4 add; conv A7 B6 INT; store A7 B2; " +
			"jump B16; return; const A8 LINT#1; do A9 C8 add; move B9; jump B1; const A10 INT#1; store A10 B1 C1", "loop 1 16 2"},
		{"FOR lv := 100 TO 99 BY -1 DO END_FOR;", "const LINT#0; const A1 LINT#2; do A2 C1 lt; unless A2 B14; const A3 LINT#-1; do A4 C3 mul; const A5 LINT#100; do A6 B5 C4 add; conv A7 B6 INT; store A7 B1 C10; " +
			"const A8 LINT#1; do A9 C8 add; move B9; jump B1", "loop 1 14 2"},
	})
}

func TestWhile(t *testing.T) {
	checkLoops(t, []loopRow{
		{"{BOUND 5} WHILE b DO END_WHILE;", "const LINT#0; load A1 B1 C3; unless A1 B11; const A2 LINT#5; do A3 C2 lt; unless A3 B10; const A4 LINT#1; do A5 C4 add; move B5; jump B1; fault A6", "loop 1 11 5"},
		{"{BOUND 65536} WHILE TRUE DO i := 1; END_WHILE; b := FALSE;", "const LINT#0; const A1 TRUE; unless A1 B13; const A2 LINT#65536; do A3 C2 lt; unless A3 B12; const A4 LINT#1; do A5 C4 add; move B5; " +
			"const A6 INT#1; store A6 B1 C1; jump B1; fault A6; const A7 FALSE; store A7 B1 C3", "loop 1 13 65536"},
		{"{BOUND 1} WHILE b DO EXIT; RETURN; IF b THEN EXIT; END_IF; END_WHILE;", "const LINT#0; load A1 B1 C3; unless A1 B16; const A2 LINT#1; do A3 C2 lt; unless A3 B15; const A4 LINT#1; do A5 C4 add; move B5; " +
			"jump B16; return; load A6 B1 C3; unless A6 B14; jump B16; jump B1; fault A6", "loop 1 16 1"},
	})
}

func TestRepeat(t *testing.T) {
	checkLoops(t, []loopRow{
		{"{BOUND 5} REPEAT UNTIL b END_REPEAT;", "const LINT#0; const A1 LINT#5; do A2 C1 lt; unless A2 B10; const A3 LINT#1; do A4 C3 add; move B4; load A5 B1 C3; unless A5 B1; jump B11; fault A6", "loop 1 11 5"},
		{"i := 1; {BOUND 7} REPEAT EXIT; RETURN; UNTIL NOT b END_REPEAT;", "const INT#1; store B1 C1; const A1 LINT#0; const A2 LINT#7; do A3 B1 C2 lt; unless A3 B15; const A4 LINT#1; do A5 B1 C4 add; move A1 B5; " +
			"jump B16; return; load A6 B1 C3; turn A7 B6 not; unless A7 B3; jump B16; fault A6", "loop 3 16 7"},
	})
}

// Loops within loops stand behind them, else they stand in their order; EXIT ends the innermost.
func TestLoopsWithinLoops(t *testing.T) {
	checkLoops(t, []loopRow{
		{"{BOUND 2} WHILE b DO {BOUND 3} REPEAT EXIT; UNTIL b END_REPEAT; {BOUND 4} WHILE b DO EXIT; END_WHILE; EXIT; END_WHILE; {BOUND 5} REPEAT UNTIL b END_REPEAT;",
			"const LINT#0; load A1 B1 C3; unless A1 B36; const A2 LINT#2; do A3 C2 lt; unless A3 B35; const A4 LINT#1; do A5 C4 add; move B5; " + // to 8
				"const A6 LINT#0; const A7 LINT#3; do A8 B6 C7 lt; unless A8 B20; const A9 LINT#1; do A10 B6 C9 add; move A6 B10; jump B21; load A11 B1 C3; unless A11 B10; jump B21; fault A6; " + // 9 to 20
				"const A12 LINT#0; load A13 B1 C3; unless A13 B33; const A14 LINT#4; do A15 B12 C14 lt; unless A15 B32; const A16 LINT#1; do A17 B12 C16 add; move A12 B17; jump B33; jump B22; fault A6; " + // 21 to 32
				"jump B36; jump B1; fault A6; " +
				"const A18 LINT#0; const A19 LINT#5; do A20 B18 C19 lt; unless A20 B46; const A21 LINT#1; do A22 B18 C21 add; move A18 B22; load A23 B1 C3; unless A23 B37; jump B47; fault A6",
			"loop 1 36 2; loop 10 21 3; loop 22 33 4; loop 37 47 5"},
	})
}

// jumped is the listing of statements with labels and jumps among them, which core takes of the other languages.
func jumped(t *testing.T, change func(l []api.Stmt) []api.Stmt, body string) string {
	t.Helper()
	p, bodies := parsed(t, program(body))
	bodies[under] = change(bodies[under])
	return listing.Text(flat(t, typed(t, p, bodies)[under]))
}

func label(name string) api.Stmt { return api.Stmt{Op: api.StLabel, Name: name} }

func jump(name string, when ...api.Expr) api.Stmt {
	return api.Stmt{Op: api.StJump, Name: name, Exprs: when}
}

func TestLabelsAndJumps(t *testing.T) {
	b := api.Expr{Op: api.ExName, Name: "B"}
	for _, x := range []struct {
		body   string
		change func(l []api.Stmt) []api.Stmt
		want   string
	}{
		{"i := 1;", func(l []api.Stmt) []api.Stmt { return []api.Stmt{jump("X"), l[0], label("X")} }, "jump B3; const INT#1; store B1 C1; return"},
		{"i := 1;", func(l []api.Stmt) []api.Stmt { return []api.Stmt{jump("X", b), l[0], label("X")} },
			"load B1 C3; turn A1 not; unless A1 B5; const A2 INT#1; store A2 B1 C1; return"},
		// Labels that nothing leads to, one right behind another, several jumps to one, one across another
		{"i := 1;", func(l []api.Stmt) []api.Stmt {
			return []api.Stmt{label("N"), jump("X"), jump("Y"), jump("X"), l[0], label("X"), label("M"), jump("Z", b), label("Y"), label("Z")}
		}, "jump B5; jump B8; jump B5; const INT#1; store B1 C1; load A1 B1 C3; turn A2 B1 not; unless A2 B8; return"},
		// Labels are those of their list alone; jumps in loops, too
		{"IF b THEN i := 1; END_IF; {BOUND 2} WHILE b DO i := 2; END_WHILE;", func(l []api.Stmt) []api.Stmt {
			l[0].Body = []api.Stmt{jump("X"), l[0].Body[0], label("X")}
			l[1].Body = []api.Stmt{jump("X", b), l[1].Body[0], label("X")}
			return []api.Stmt{jump("X"), l[0], label("X"), l[1]}
		}, "jump B6; load B1 C3; unless B6; jump B6; const A1 INT#1; store A1 B1 C1; " +
			"const A2 LINT#0; load A3 B1 C3; unless A3 B22; const A4 LINT#2; do A5 B2 C4 lt; unless A5 B21; const A6 LINT#1; do A7 B2 C6 add; move A2 B7; " +
			"load A8 B1 C3; turn A9 B8 not; unless A9 B20; const A10 INT#2; store A10 B1 C1; jump B7; fault A6; return; loop 7 22 2"},
		{"{BOUND 2} REPEAT i := 1; UNTIL b END_REPEAT;", func(l []api.Stmt) []api.Stmt {
			l[0].Body = []api.Stmt{jump("X"), l[0].Body[0], jump("X", b), {Op: api.StReturn}, label("X")}
			return l
		}, "const LINT#0; const A1 LINT#2; do A2 C1 lt; unless A2 B17; const A3 LINT#1; do A4 C3 add; move B4; " +
			"jump B14; const A5 INT#1; store A5 B1 C1; load A6 B1 C3; turn A7 B6 not; unless A7 B14; return; load A8 B1 C3; unless A8 B1; jump B18; fault A6; return; loop 1 18 2"},
		// Over a call of an instance, which becomes several statements
		{"k(IN := b);", func(l []api.Stmt) []api.Stmt { return []api.Stmt{jump("X"), l[0], label("X")} }, "jump B4; load B1 C3; store B1 C11; block B9 C1 D11; return"},
	} {
		if got := jumped(t, x.change, x.body); got != x.want {
			t.Errorf("%s\n got %s\nwant %s", x.body, got, x.want)
		}
	}
}

// Statements that are none, and parts that are not there, put nothing, and end.
func TestOthers(t *testing.T) {
	var l []api.Stmt
	for _, op := range []int{api.StEmpty, api.StArm, api.StLabel, api.StExit, 0, -1, api.NumSt, 1 << 40} {
		l = append(l, api.Stmt{Op: op, Exprs: make([]api.Expr, 1), Body: make([]api.Stmt, 1)})
	}
	if got := listing.Text(flat(t, api.Code{Body: l})); got != "return" {
		t.Error(got)
	}
}
