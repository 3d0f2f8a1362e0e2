package shown_test

import (
	"testing"

	"relay/api"
	"relay/shown"
	"relay/st"
)

func TestStmts(t *testing.T) {
	for src, want := range map[string]string{
		"":            "",
		"a := b + 1;": "A := (B + 1);",
		"a[-i] := not b.c = f(1, x := INT#2, 'x');":                 "A[(-I)] := ((NOT B.C) = F(1, X := INT#2'', STRING#0'x'));",
		"if a then t(b, in := TRUE, q => FALSE_1); RETURN; end_if;": "IF A THEN T(B, IN := TRUE|Q => FALSE_1); RETURN; END_IF;",
		"exit;;return;": "EXIT; ; RETURN;",
		"if a then b := 1; elsif c then ; else exit; end_if;":                      "IF A THEN B := 1; ELSE IF C THEN ; ELSE EXIT; END_IF; END_IF;",
		"case a of 1, -3..5: b := 1; 7: ; else exit; end_case;":                    "CASE A OF 1..1, -3..5: B := 1; 7..7: ; ELSE EXIT; END_CASE;",
		"for i := 1 to n do ; end_for; for i := 1 to n by -1 do exit; end_for;":    "FOR I := 1, N DO ; END_FOR; FOR I := 1, N, (-1) DO EXIT; END_FOR;",
		"{bound 5} while a do ; end_while; {bound 6} repeat ; until b end_repeat;": "{5} WHILE A DO ; END_WHILE; {6} REPEAT ; UNTIL B END_REPEAT;",
	} {
		l, err := st.Parse(src)
		if got := shown.Stmts(l); err != nil || got != want {
			t.Errorf("%q: %s %v", src, got, err)
		}
	}
	l := []api.Stmt{{Op: api.StLabel, Name: "L", At: 4}, {Op: api.StJump, Name: "L", At: 5}, {Op: api.StJump, Name: "L", At: 6, Exprs: []api.Expr{{Op: api.OpNot, At: 8, Kids: []api.Expr{{Op: api.ExName, Name: "_ACC", At: 7}}}}}}
	if got := shown.Stmts(l); got != "L: JMP L; JMP L IF (NOT _ACC);" {
		t.Error(got)
	}
	if got := shown.Placed(l); got != "4> L: 5> JMP L; 6> JMP L IF (8:NOT 7:_ACC);" {
		t.Error(got)
	}
	if got := shown.PlacedExpr(l[2].Exprs[0]); got != "(8:NOT 7:_ACC)" {
		t.Error(got)
	}
}

// What a part does not have is told, if it has it.
func TestOdd(t *testing.T) {
	a := api.Expr{Op: api.ExName, Name: "A"}
	for want, e := range map[string]api.Expr{
		"A!Field!Kind":    {Op: api.ExName, Name: "A", Field: "B", Kind: 1},
		"FALSE!Area!Ref":  {Op: api.ExLit, Value: api.Value{Kind: api.KBool}, Area: 1, Ref: 2},
		"(NOT A)!From!To": {Op: api.OpNot, Kids: []api.Expr{a}, From: 1, To: 1},
		"?16(?A, ?A)":     {Op: api.OpNot, Kids: []api.Expr{a, a}},
		"A!Value!Names":   {Op: api.ExName, Name: "A", Value: api.Value{Bits: 1}, Names: []string{""}},
		"F(A, ?A)":        {Op: api.ExCall, Name: "F", Kids: []api.Expr{a, a}, Names: []string{""}},
		"F(A, X := )":     {Op: api.ExCall, Name: "F", Kids: []api.Expr{a}, Names: []string{"", "X"}},
		"(A < A)!Name":    {Op: api.OpLt, Name: "A", Kids: []api.Expr{a, a}},
	} {
		if got := shown.Expr(e); got != want {
			t.Errorf("%s, not %s", got, want)
		}
	}
	for want, s := range map[string]api.Stmt{
		"A := A;!Name!Num!Kind!Area!Ref":      {Op: api.StSet, Exprs: []api.Expr{a, a}, Name: "A", Num: 1, Kind: 1, Area: 1, Ref: 1},
		"RETURN;!Names!Outs!Ranges!Body!Else": {Op: api.StReturn, Names: []string{""}, OutNames: []string{""}, Ranges: []api.Range{{}}, Body: make([]api.Stmt, 1), Else: make([]api.Stmt, 1)},
		"IF A THEN  ELSE ?0(); END_IF;!Num":   {Op: api.StIf, Exprs: []api.Expr{a}, Else: make([]api.Stmt, 1), Num: 3},
		"{3} WHILE A DO  END_WHILE;!Else":     {Op: api.StWhile, Exprs: []api.Expr{a}, Else: make([]api.Stmt, 1), Num: 3},
		"EXIT;!Body":                          {Op: api.StExit, Body: make([]api.Stmt, 1)},
		"FOR I :=  DO  END_FOR;!Num!Ranges":   {Op: api.StFor, Name: "I", Num: 3, Ranges: []api.Range{{}}},
		"?9(?A);":                             {Op: api.StReturn, Exprs: []api.Expr{a}},
	} {
		if got := shown.Stmts([]api.Stmt{s}); got != want {
			t.Errorf("%s, not %s", got, want)
		}
	}
}
