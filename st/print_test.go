package st_test

import (
	"strconv"
	"strings"
	"testing"

	"relay/api"
	"relay/st"
	"relay/value"
)

// P5.3: the form, of each statement and of all operations.
func TestForm(t *testing.T) {
	for src, want := range map[string]string{
		"":                  "",
		"a:=b+1;":           "A := B + 1;\n",
		"a [ i ] := b . c;": "A[I] := B.C;\n",
		";;":                ";\n;\n",
		"exit; return;":     "EXIT;\nRETURN;\n",
		"if a then b:=1; elsif c then ; else d:=2; end_if;": "IF A THEN\n  B := 1;\nELSIF C THEN\n  ;\nELSE\n  D := 2;\nEND_IF;\n",
		"IF a THEN END_IF;":                          "IF A THEN\nEND_IF;\n",
		"IF a THEN ELSE END_IF;":                     "IF A THEN\nEND_IF;\n",
		"IF a THEN ELSE IF b THEN ; END_IF; END_IF;": "IF A THEN\nELSIF B THEN\n  ;\nEND_IF;\n",
		"IF a THEN ELSE IF b THEN END_IF; ; END_IF;": "IF A THEN\nELSE\n  IF B THEN\n  END_IF;\n  ;\nEND_IF;\n",
		"IF a THEN IF b THEN ; END_IF; ELSIF c THEN IF d THEN ELSE ; END_IF; END_IF;":              "IF A THEN\n  IF B THEN\n    ;\n  END_IF;\nELSIF C THEN\n  IF D THEN\n  ELSE\n    ;\n  END_IF;\nEND_IF;\n",
		"case a of 1, 3 .. 5: b := 1; -2: 7..7: else ; end_case;":                                  "CASE A OF\n  1, 3..5:\n    B := 1;\n  -2:\n  7:\nELSE\n  ;\nEND_CASE;\n",
		"CASE a OF -5..-3, 5..1, -0: END_CASE;":                                                    "CASE A OF\n  -5..-3, 5..1, 0:\nEND_CASE;\n",
		"CASE a OF -2147483648..2147483648: CASE b OF 1: ; END_CASE; END_CASE;":                    "CASE A OF\n  -2147483648..2147483648:\n    CASE B OF\n      1:\n        ;\n    END_CASE;\nEND_CASE;\n",
		"CASE a OF ELSE END_CASE;":                                                                 "CASE A OF\nEND_CASE;\n",
		"for i := 1 to 9 by 2 do a[i] := (a + b) * c; end_for;":                                    "FOR I := 1 TO 9 BY 2 DO\n  A[I] := (A + B) * C;\nEND_FOR;\n",
		"FOR i := 1 TO 2 DO END_FOR;":                                                              "FOR I := 1 TO 2 DO\nEND_FOR;\n",
		"{ bound  3 } while a do exit; end_while;":                                                 "{BOUND 3} WHILE A DO\n  EXIT;\nEND_WHILE;\n",
		"{BOUND 65536} REPEAT a := 1; UNTIL b OR c END_REPEAT;":                                    "{BOUND 65536} REPEAT\n  A := 1;\nUNTIL B OR C\nEND_REPEAT;\n",
		"IF a THEN {BOUND 1} REPEAT {BOUND 2} WHILE b DO ; END_WHILE; UNTIL c END_REPEAT; END_IF;": "IF A THEN\n  {BOUND 1} REPEAT\n    {BOUND 2} WHILE B DO\n      ;\n    END_WHILE;\n  UNTIL C\n  END_REPEAT;\nEND_IF;\n",
		"t();":                                 "T();\n",
		"t(in:=a,5,q=>b[1],r=>c.d);":           "T(IN := A, 5, Q => B[1], R => C.D);\n",
		"t(q=>b,in:=a);":                       "T(IN := A, Q => B);\n",
		"t(q=>b);":                             "T(Q => B);\n",
		"a := f();":                            "A := F();\n",
		"a := f(x:=1,2);":                      "A := F(X := 1, 2);\n",
		"a := TRUE; b := bool#0;":              "A := TRUE;\nB := FALSE;\n",
		"a := int#5 + sint#-128 - uint#16#FF;": "A := INT#5 + SINT#-128 - UINT#255;\n",
		"a := word#16#beef; b := byte#0;":      "A := WORD#16#BEEF;\nB := BYTE#16#0;\n",
		"a := 16#FF + 1_000;":                  "A := 255 + 1000;\n",
		"a := 18446744073709551615;":           "A := 18446744073709551615;\n",
		"a := ulint#18446744073709551615; b := lword#16#ffffffffffffffff; c := lint#-9223372036854775808;": "A := ULINT#18446744073709551615;\nB := LWORD#16#FFFFFFFFFFFFFFFF;\nC := LINT#-9223372036854775808;\n",
	} {
		if got := st.Print(parsed(t, src)); got != want {
			t.Errorf("%q:\n got %q\nwant %q", src, got, want)
		}
	}
}

func TestExprForm(t *testing.T) {
	for src, want := range map[string]string{
		"a&b": "A AND B", "not a and b": "NOT A AND B", "NOT (a AND b)": "NOT (A AND B)", "(NOT a) AND b": "NOT A AND B", "-a*b": "-A * B", "-(a*b)": "-(A * B)", "(-a)": "-A", "- -a": "--A", "-(-5)": "--5", "NOT NOT a": "NOT NOT A", "-NOT a": "-NOT A", "NOT -a": "NOT -A",
		"a-(b-c)": "A - (B - C)", "(a-b)-c": "A - B - C", "a - -b": "A - -B", "(a+b)*c": "(A + B) * C", "a+(b*c)": "A + B * C", "a*(b+c)": "A * (B + C)", "(a*b)/c": "A * B / C", "a*(b/c)": "A * (B / C)", "a MOD (b MOD c)": "A MOD (B MOD C)", "a+(-b)": "A + -B",
		"(a=b)<c": "(A = B) < C", "a=(b<c)": "A = B < C", "(a<b)=c": "A < B = C", "a<(b<c)": "A < (B < C)", "a=(b=c)": "A = (B = C)", "(a<>b)<>c": "A <> B <> C", "a<=(b>=c)": "A <= (B >= C)", "(a>b)": "A > B",
		"(a or b) and c": "(A OR B) AND C", "a or (b and c)": "A OR B AND C", "a or (b xor c)": "A OR B XOR C", "(a or b) xor c": "(A OR B) XOR C", "a and (b or c)": "A AND (B OR C)", "a xor (b xor c)": "A XOR (B XOR C)", "(a and b) xor c": "A AND B XOR C", "a or (b or c)": "A OR (B OR C)",
		"a[(b)]": "A[B]", "f((a), x := (b or c))": "F(A, X := B OR C)", "(a.b)": "A.B", "((5))": "5", "-int#5": "-INT#5", "-int#-5": "-INT#-5", "a-int#-5": "A - INT#-5", "(a and b) = c": "(A AND B) = C", "a = (b and c)": "A = (B AND C)", "NOT (a = b)": "NOT (A = B)", "-(f(a))": "-F(A)", "(a[1] + b) MOD 2": "(A[1] + B) MOD 2",
		"a": "A",
	} {
		e, err := st.Expr(src)
		if got := st.PrintExpr(e); err != nil || got != want {
			t.Errorf("%q: %q %v, wanted %q", src, got, err, want)
		}
	}
}

// formOf is the form of a statement as lines, each deeper one with two blanks ahead; of expressions as their texts.
func formOf(s api.Stmt) []string {
	inner := func(l []api.Stmt) []string {
		var lines []string
		for _, x := range l {
			for _, line := range formOf(x) {
				lines = append(lines, "  "+line)
			}
		}
		return lines
	}
	row := func(first string, parts ...[]string) []string {
		lines := []string{first}
		for _, p := range parts {
			lines = append(lines, p...)
		}
		return lines
	}
	var e []string
	for _, x := range s.Exprs {
		e = append(e, st.PrintExpr(x))
	}
	var other []string
	if len(s.Else) > 0 {
		other = row("ELSE", inner(s.Else))
	}
	switch s.Op {
	case api.StSet:
		return row(e[0] + " := " + e[1] + ";")
	case api.StExit:
		return row("EXIT;")
	case api.StReturn:
		return row("RETURN;")
	case api.StEmpty:
		return row(";")
	case api.StCall:
		var l []string
		for i, n := range s.Names {
			l = append(l, strings.TrimPrefix(n+" := "+e[i], " := "))
		}
		for i, n := range s.OutNames {
			l = append(l, n+" => "+st.PrintExpr(s.Outs[i]))
		}
		return row(s.Name + "(" + strings.Join(l, ", ") + ");")
	case api.StIf:
		if len(s.Else) == 1 && s.Else[0].Op == api.StIf {
			l := formOf(s.Else[0])
			l[0] = "ELS" + l[0]
			return row("IF "+e[0]+" THEN", inner(s.Body), l)
		}
		return row("IF "+e[0]+" THEN", inner(s.Body), other, []string{"END_IF;"})
	case api.StCase:
		return row("CASE "+e[0]+" OF", inner(s.Body), other, []string{"END_CASE;"})
	case api.StArm:
		var l []string
		for _, x := range s.Ranges {
			n := strconv.Itoa(x.Lo)
			if x.Hi != x.Lo {
				n += ".." + strconv.Itoa(x.Hi)
			}
			l = append(l, n)
		}
		return row(strings.Join(l, ", ")+":", inner(s.Body))
	case api.StFor:
		return row("FOR "+s.Name+" := "+strings.Replace(strings.Join(e, " BY "), " BY ", " TO ", 1)+" DO", inner(s.Body), []string{"END_FOR;"})
	case api.StWhile:
		return row("{BOUND "+strconv.Itoa(s.Num)+"} WHILE "+e[0]+" DO", inner(s.Body), []string{"END_WHILE;"})
	}
	return row("{BOUND "+strconv.Itoa(s.Num)+"} REPEAT", inner(s.Body), []string{"UNTIL " + e[0], "END_REPEAT;"})
}

// P5.3, P5.4: what is printed has the form, is read again as the same, and prints the same.
func TestThereAndBack(t *testing.T) {
	for seed := range int64(4000) {
		src, l := program(seed, true)
		text := st.Print(l)
		want := ""
		for _, s := range l {
			want += strings.Join(formOf(s), "\n") + "\n"
		}
		if text != want {
			t.Fatalf("%q:\n got %q\nwant %q", src, text, want)
		}
		back := parsed(t, text)
		if !st.Same(back, l) || !alike(placeless(back), placeless(l)) || st.Print(back) != text {
			t.Fatalf("%q: %q", src, text)
		}
	}
}

// isPlain tells whether all literals of a tree have a printed form.
func isPlain(l []api.Stmt) bool {
	var plain func(l []api.Expr) bool
	plain = func(l []api.Expr) bool {
		for _, e := range l {
			if e.Value.Kind >= api.KTime || !plain(e.Kids) {
				return false
			}
		}
		return true
	}
	for _, s := range l {
		if !plain(s.Exprs) || !plain(s.Outs) || !isPlain(s.Body) || !isPlain(s.Else) {
			return false
		}
	}
	return true
}

// P5.3: with other literals nothing is printed, without them all is.
func TestEmptyForm(t *testing.T) {
	count := 0
	for seed := range int64(2000) {
		src, l := program(seed, false)
		if (st.Print(l) != "") != (isPlain(l) && len(l) > 0) {
			t.Fatalf("%q: %q", src, st.Print(l))
		}
		if !isPlain(l) {
			count++
		}
	}
	if count < 200 {
		t.Error(count)
	}
}

// pairs is the places of brackets in a text that stand around an expression.
func pairs(t *testing.T, text string) [][2]int {
	var open []int
	var l [][2]int
	words := scanned(t, text)
	for i, w := range words {
		switch w.Text {
		case "(":
			open = append(open, i)
		case ")":
			from := open[len(open)-1]
			open = open[:len(open)-1]
			if from == 0 || words[from-1].Kind != api.TokName {
				l = append(l, [2]int{words[from].At, w.At})
			}
		}
	}
	return l
}

// P5.3: without any of its brackets a printed expression would be read as another tree, or not at all.
func TestBrackets(t *testing.T) {
	count := 0
	for seed := range int64(6000) {
		m := newMaker(seed, true)
		e := m.expr(1 + int(seed%4))
		text := st.PrintExpr(e)
		back, err := st.Expr(text)
		if err != nil || st.PrintExpr(back) != text || strings.TrimSpace(text) != text {
			t.Fatal(m.b.String(), text, err)
		}
		for _, p := range pairs(t, text) {
			count++
			less := text[:p[0]] + " " + text[p[0]+1:p[1]] + " " + text[p[1]+1:]
			other, err := st.Expr(less)
			if err == nil && st.Same([]api.Stmt{{Exprs: []api.Expr{other}}}, []api.Stmt{{Exprs: []api.Expr{e}}}) {
				t.Fatalf("%q: %q", text, less)
			}
		}
	}
	if count < 500 {
		t.Error(count)
	}
}

// P5.3: literals without a printed form, wherever they stand.
func TestNoForm(t *testing.T) {
	for _, x := range []string{"1.5", "0.0", "LREAL#0", "LREAL#1", "T#0s", "D#1970-01-01", "TOD#00:00:00", "T#1s", "D#2000-01-01", "TOD#12:00:00", "DT#2000-01-01-12:00:00", "'a'", "''"} {
		e, err := st.Expr(x)
		if err != nil || st.PrintExpr(e) != "" {
			t.Error(x, err, st.PrintExpr(e))
		}
		for _, form := range []string{"a := @;", "a := b + -@;", "a[@] := 1;", "t(@);", "t(q => a[@]);", "a := f(x := @);", "IF @ THEN END_IF;", "IF a THEN b := @; END_IF;", "IF a THEN ELSIF @ THEN END_IF;", "IF a THEN ELSE b := @; END_IF;", "CASE @ OF END_CASE;", "CASE a OF 1: b := @; END_CASE;", "FOR i := 1 TO 2 BY @ DO END_FOR;", "{BOUND 1} WHILE @ DO END_WHILE;", "{BOUND 1} REPEAT b := @; UNTIL c END_REPEAT;", "; a := @;"} {
			src := strings.ReplaceAll(form, "@", x)
			if text := st.Print(parsed(t, src)); text != "" {
				t.Errorf("%q: %q", src, text)
			}
			if text := st.Print(parsed(t, strings.ReplaceAll(form, "@", "5"))); text == "" {
				t.Error(form)
			}
		}
	}
}

// byHand is expressions that no text has.
func byHand() []api.Expr {
	a, one := name(0, "A"), number(0, 1)
	chain, right := a, a
	for range api.MaxDeep + 1 {
		chain = turned(api.OpNeg, 0, chain)
		right = two(api.OpSub, 0, a, turned(api.OpNot, 0, right))
	}
	round := []api.Expr{{Op: api.OpNeg}}
	round[0].Kids = round
	left := []api.Expr{{Op: api.OpAdd}, one}
	left[0].Kids = left
	wide := a
	for range 60 {
		wide = two(api.OpAdd, 0, wide, wide)
	}
	return []api.Expr{
		{}, {Op: -1}, {Op: 99}, {Op: api.ExConv, Kids: []api.Expr{a}}, {Op: api.ExRef, Kids: []api.Expr{a}}, {Op: api.ExParam, Kids: []api.Expr{a}},
		name(0, ""), name(0, "a"), name(0, "_X1"), name(0, "A B"), name(0, "A (* *)"), name(0, "A.B"), name(0, "A + B"), name(0, "IF"), name(0, "TRUE"), name(0, "5"), name(0, "(A)"), name(0, "ABCDEFGHIJKLMNOPQRSTUVWXY"), name(0, "A "), name(0, "F()"), name(0, "A\x00"), name(0, "Ä"),
		{Op: api.ExName, Name: "A", Field: "B"}, {Op: api.ExName, Name: "A", Kids: []api.Expr{a}}, {Op: api.ExName, Name: "A", Names: []string{""}}, {Op: api.ExName, Name: "A", Value: value.Bool(true)},
		{Op: api.ExIndex, Name: "A"}, {Op: api.ExIndex, Name: "A", Kids: []api.Expr{a, a}}, {Op: api.ExIndex, Kids: []api.Expr{a}}, {Op: api.ExIndex, Name: "A", Field: "B", Kids: []api.Expr{a}}, {Op: api.ExIndex, Name: "A", Kids: []api.Expr{{}}},
		{Op: api.ExField, Name: "A"}, {Op: api.ExField, Field: "A"}, {Op: api.ExField, Name: "A", Field: "B.C"}, {Op: api.ExField, Name: "A", Field: "b"}, {Op: api.ExField, Name: "A", Field: "B[1]"},
		{Op: api.ExCall}, {Op: api.ExCall, Name: "F", Kids: []api.Expr{a}}, {Op: api.ExCall, Name: "F", Names: []string{""}}, {Op: api.ExCall, Name: "F", Kids: []api.Expr{a}, Names: []string{"", ""}}, {Op: api.ExCall, Name: "F", Kids: []api.Expr{a}, Names: []string{"x"}}, {Op: api.ExCall, Name: "F", Kids: []api.Expr{a}, Names: []string{"1"}}, {Op: api.ExCall, Name: "NOT", Kids: []api.Expr{a}, Names: []string{""}}, {Op: api.ExCall, Name: "F", Kids: []api.Expr{{}}, Names: []string{""}},
		{Op: api.OpAdd}, {Op: api.OpAdd, Kids: []api.Expr{a}}, {Op: api.OpAdd, Kids: []api.Expr{a, a, a}}, {Op: api.OpNeg}, {Op: api.OpNeg, Kids: []api.Expr{a, a}}, {Op: api.OpNot}, {Op: api.OpAdd, Name: "A", Kids: []api.Expr{a, a}}, {Op: api.OpAdd, Names: []string{""}, Kids: []api.Expr{a, a}}, {Op: api.OpNeg, Kids: []api.Expr{{}}},
		{Op: api.ExLit, Value: api.Value{Text: "A"}}, {Op: api.ExLit, Name: "A"}, {Op: api.ExLit, Kids: []api.Expr{a}}, {Op: api.ExLit, Value: api.Value{Kind: api.KBool, Bits: 2}}, {Op: api.ExLit, Value: api.Value{Kind: api.KBool, Text: "X"}}, {Op: api.ExLit, Value: api.Value{Kind: api.KSint, Bits: 128}}, {Op: api.ExLit, Value: api.Value{Kind: api.KUint, Bits: 65536}}, {Op: api.ExLit, Value: api.Value{Kind: api.KInt, Text: "5"}}, {Op: api.ExLit, Value: api.Value{Kind: api.KByte, Bits: 256}}, {Op: api.ExLit, Value: api.Value{Kind: api.KRef}}, {Op: api.ExLit, Value: api.Value{Kind: 99}},
		chain, right, round[0], left[0], wide,
	}
}

// P5.3: trees made by hand that have no text; they are printed to an end, however they are made.
func TestByHand(t *testing.T) {
	a := name(0, "A")
	for i, e := range byHand() {
		if text := st.PrintExpr(e); text != "" {
			t.Errorf("%d: %q", i, text)
		}
		for _, s := range []api.Stmt{
			{Op: api.StSet, Exprs: []api.Expr{a, e}}, {Op: api.StSet, Exprs: []api.Expr{e, a}}, {Op: api.StIf, Exprs: []api.Expr{e}}, {Op: api.StCall, Name: "T", Outs: []api.Expr{e}, OutNames: []string{"Q"}}, {Op: api.StFor, Name: "I", Exprs: []api.Expr{a, a, e}}, {Op: api.StRepeat, Num: 1, Exprs: []api.Expr{e}},
		} {
			if text := st.Print([]api.Stmt{{Op: api.StEmpty}, s}); text != "" {
				t.Errorf("%d: %q", i, text)
			}
		}
	}
	for i, s := range stmtsByHand() {
		for _, l := range [][]api.Stmt{{s}, {{Op: api.StEmpty}, s}, {{Op: api.StIf, Exprs: []api.Expr{a}, Body: []api.Stmt{s}}}, {{Op: api.StIf, Exprs: []api.Expr{a}, Else: []api.Stmt{s}}}} {
			if text := st.Print(l); text != "" {
				t.Errorf("%d: %q", i, text)
			}
		}
	}
}

// stmtsByHand is statements that no text has.
func stmtsByHand() []api.Stmt {
	a, one := name(0, "A"), number(0, 1)
	round := []api.Stmt{{Op: api.StIf, Exprs: []api.Expr{a}}}
	round[0].Body = round
	other := []api.Stmt{{Op: api.StIf, Exprs: []api.Expr{a}}}
	other[0].Else = other
	rounds := []api.Stmt{{Op: api.StRepeat, Num: 1, Exprs: []api.Expr{a}}}
	rounds[0].Body = rounds
	deep := api.Stmt{Op: api.StEmpty}
	for range api.MaxDeep {
		deep = api.Stmt{Op: api.StIf, Exprs: []api.Expr{a}, Else: []api.Stmt{deep}}
	}
	deep = api.Stmt{Op: api.StFor, Name: "I", Exprs: []api.Expr{a, a}, Body: []api.Stmt{deep}}
	arms := func(l ...api.Stmt) api.Stmt { return api.Stmt{Op: api.StCase, Exprs: []api.Expr{a}, Body: l} }
	arm := func(lo, hi int) api.Stmt { return api.Stmt{Op: api.StArm, Ranges: []api.Range{{Lo: lo, Hi: hi}}} }
	return []api.Stmt{
		{}, {Op: -1}, {Op: 99}, {Op: api.StLabel, Name: "A"}, {Op: api.StJump, Name: "A"}, arm(1, 1),
		{Op: api.StSet}, {Op: api.StSet, Exprs: []api.Expr{a}}, {Op: api.StSet, Exprs: []api.Expr{a, a, a}}, {Op: api.StSet, Exprs: []api.Expr{one, a}}, {Op: api.StSet, Exprs: []api.Expr{two(api.OpAdd, 0, a, a), a}}, {Op: api.StSet, Exprs: []api.Expr{{Op: api.ExCall, Name: "F"}, a}}, {Op: api.StSet, Name: "A", Exprs: []api.Expr{a, a}}, {Op: api.StSet, Num: 1, Exprs: []api.Expr{a, a}}, {Op: api.StSet, Exprs: []api.Expr{a, a}, Body: []api.Stmt{{Op: api.StEmpty}}},
		{Op: api.StIf}, {Op: api.StIf, Exprs: []api.Expr{a, a}}, {Op: api.StIf, Exprs: []api.Expr{a}, Body: []api.Stmt{{}}}, {Op: api.StIf, Exprs: []api.Expr{a}, Else: []api.Stmt{{}}}, {Op: api.StIf, Exprs: []api.Expr{a}, Else: []api.Stmt{{Op: api.StIf}}}, {Op: api.StIf, Exprs: []api.Expr{a}, Else: []api.Stmt{{Op: api.StIf, Exprs: []api.Expr{a}, Name: "X"}}}, {Op: api.StIf, Exprs: []api.Expr{a}, Ranges: []api.Range{{}}},
		{Op: api.StCase}, arms(api.Stmt{Op: api.StEmpty}), arms(api.Stmt{Op: api.StArm}), arms(arm(1<<31+1, 1<<31+1)), arms(arm(0, 1<<31+1)), arms(arm(-1<<31-1, 0)), arms(arm(-1<<63, -1<<63)), arms(arm(1<<63-1, 0)), arms(api.Stmt{Op: api.StArm, Name: "X", Ranges: []api.Range{{}}}), arms(api.Stmt{Op: api.StArm, Ranges: []api.Range{{}}, Else: []api.Stmt{{Op: api.StEmpty}}}), arms(api.Stmt{Op: api.StArm, Ranges: []api.Range{{}}, Body: []api.Stmt{arm(1, 1)}}),
		{Op: api.StFor, Name: "I"}, {Op: api.StFor, Name: "I", Exprs: []api.Expr{a}}, {Op: api.StFor, Name: "I", Exprs: []api.Expr{a, a, a, a}}, {Op: api.StFor, Exprs: []api.Expr{a, a}}, {Op: api.StFor, Name: "i", Exprs: []api.Expr{a, a}}, {Op: api.StFor, Name: "_I", Exprs: []api.Expr{a, a}}, {Op: api.StFor, Name: "A[1]", Exprs: []api.Expr{a, a}}, {Op: api.StFor, Name: "I", Exprs: []api.Expr{a, a}, Else: []api.Stmt{{Op: api.StEmpty}}},
		{Op: api.StWhile, Num: 1}, {Op: api.StWhile, Exprs: []api.Expr{a}}, {Op: api.StWhile, Num: -1, Exprs: []api.Expr{a}}, {Op: api.StWhile, Num: api.MaxTimes + 1, Exprs: []api.Expr{a}}, {Op: api.StWhile, Num: 1, Exprs: []api.Expr{a, a}}, {Op: api.StRepeat, Exprs: []api.Expr{a}}, {Op: api.StRepeat, Num: api.MaxTimes + 1, Exprs: []api.Expr{a}}, {Op: api.StRepeat, Num: 1}, {Op: api.StRepeat, Num: 1, Name: "X", Exprs: []api.Expr{a}},
		{Op: api.StCall}, {Op: api.StCall, Name: "t"}, {Op: api.StCall, Name: "_T"}, {Op: api.StCall, Name: "T", Exprs: []api.Expr{a}}, {Op: api.StCall, Name: "T", Names: []string{""}}, {Op: api.StCall, Name: "T", Outs: []api.Expr{a}}, {Op: api.StCall, Name: "T", OutNames: []string{"Q"}}, {Op: api.StCall, Name: "T", Outs: []api.Expr{a}, OutNames: []string{""}}, {Op: api.StCall, Name: "T", Outs: []api.Expr{one}, OutNames: []string{"Q"}}, {Op: api.StCall, Name: "T", Exprs: []api.Expr{a}, Names: []string{"Q => B, X"}},
		{Op: api.StExit, Name: "X"}, {Op: api.StReturn, Exprs: []api.Expr{a}}, {Op: api.StEmpty, Num: 1}, {Op: api.StEmpty, Body: []api.Stmt{{Op: api.StEmpty}}}, {Op: api.StEmpty, OutNames: []string{""}},
		round[0], rounds[0], other[0], deep,
	}
}

// A tree as great as a text can be is printed; a greater one is not.
func TestGreatForm(t *testing.T) {
	a := name(0, "A")
	sum := a
	for range 8000 {
		sum = two(api.OpAdd, 0, sum, a)
	}
	if text := st.PrintExpr(sum); text != "A"+strings.Repeat(" + A", 8000) {
		t.Error(len(text))
	}
	for range 8000 {
		sum = two(api.OpAdd, 0, sum, a)
	}
	if text := st.PrintExpr(sum); text != "" {
		t.Error(len(text))
	}
	l := make([]api.Stmt, api.MaxTokens)
	for i := range l {
		l[i].Op = api.StEmpty
	}
	if text := st.Print(l); text != strings.Repeat(";\n", api.MaxTokens) {
		t.Error(len(text))
	}
	if text := st.Print(append(l, l[0])); text != "" {
		t.Error(len(text))
	}
	// As many bytes, and as many words, as may be.
	short := api.Stmt{Op: api.StSet, Exprs: []api.Expr{name(0, "ABCDE"), name(0, "FGHIJ")}}
	var most []api.Stmt
	for range api.MaxSource / 16 {
		most = append(most, short)
	}
	if text := st.Print(most); text != strings.Repeat("ABCDE := FGHIJ;\n", api.MaxSource/16) {
		t.Error(len(text))
	}
	// Names that are long enough make the text too long, but not the words too many.
	long := api.Stmt{Op: api.StSet, Exprs: []api.Expr{name(0, strings.Repeat("N", api.MaxName)), name(0, strings.Repeat("M", api.MaxName))}}
	var all []api.Stmt
	for range api.MaxSource / 54 {
		all = append(all, long)
	}
	if text := st.Print(all); len(text) != len(all)*54 {
		t.Error(len(text))
	}
	if text := st.Print(append(all, long)); text != "" {
		t.Error(len(text))
	}
}

// What layer 15 puts in plays no part.
func TestTypedForm(t *testing.T) {
	e := two(api.OpAdd, 7, name(1, "A"), number(2, 1))
	e.Kind, e.Kids[0].Kind, e.Kids[0].Area, e.Kids[0].Ref, e.Kids[0].From, e.Kids[0].To = api.KInt, api.KInt, 1, 2, 3, 4
	s := api.Stmt{Op: api.StFor, At: 5, Name: "I", Num: 9, Kind: api.KInt, Area: 1, Ref: 2, Exprs: []api.Expr{e, e}}
	if text := st.Print([]api.Stmt{s}); text != "FOR I := A + 1 TO A + 1 DO\nEND_FOR;\n" {
		t.Error(text)
	}
}
