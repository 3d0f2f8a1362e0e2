package st_test

import (
	"reflect"
	"testing"

	"relay/api"
	"relay/st"
	"relay/value"
)

func name(at int, s string) api.Expr { return api.Expr{Op: api.ExName, At: at, Name: s} }

func number(at int, n uint64) api.Expr {
	return api.Expr{Op: api.ExLit, At: at, Value: api.Value{Bits: n}}
}

func two(op, at int, a, b api.Expr) api.Expr {
	return api.Expr{Op: op, At: at, Kids: []api.Expr{a, b}}
}

func turned(op, at int, a api.Expr) api.Expr {
	return api.Expr{Op: op, At: at, Kids: []api.Expr{a}}
}

// The chapter's examples, and each statement by itself, whole.
func TestStatements(t *testing.T) {
	five, _ := value.Int(api.KInt, -5)
	for src, want := range map[string]api.Stmt{
		"a := b + 1;": {Op: api.StSet, Exprs: []api.Expr{name(0, "A"), two(api.OpAdd, 7, name(5, "B"), number(9, 1))}},
		"IF a THEN b := 1; ELSIF c THEN ; END_IF;": {
			Op: api.StIf, Exprs: []api.Expr{name(3, "A")},
			Body: []api.Stmt{{Op: api.StSet, At: 10, Exprs: []api.Expr{name(10, "B"), number(15, 1)}}},
			Else: []api.Stmt{{Op: api.StIf, At: 18, Exprs: []api.Expr{name(24, "C")}, Body: []api.Stmt{{Op: api.StEmpty, At: 31}}}},
		},
		"IF a THEN ELSIF b THEN ELSE EXIT; END_IF;": {
			Op: api.StIf, Exprs: []api.Expr{name(3, "A")},
			Else: []api.Stmt{{Op: api.StIf, At: 10, Exprs: []api.Expr{name(16, "B")}, Else: []api.Stmt{{Op: api.StExit, At: 28}}}},
		},
		"t(IN := a, Q => q);":     {Op: api.StCall, Name: "T", Exprs: []api.Expr{name(8, "A")}, Names: []string{"IN"}, Outs: []api.Expr{name(16, "Q")}, OutNames: []string{"Q"}},
		"t(q => a.b, 1, x := 2);": {Op: api.StCall, Name: "T", Exprs: []api.Expr{number(12, 1), number(20, 2)}, Names: []string{"", "X"}, Outs: []api.Expr{{Op: api.ExField, At: 7, Name: "A", Field: "B"}}, OutNames: []string{"Q"}},
		"t();":                    {Op: api.StCall, Name: "T"},
		"CASE a OF 1, -3..-2: ; 0: ELSE RETURN; END_CASE;": {
			Op: api.StCase, Exprs: []api.Expr{name(5, "A")},
			Body: []api.Stmt{
				{Op: api.StArm, At: 10, Ranges: []api.Range{{Lo: 1, Hi: 1}, {Lo: -3, Hi: -2}}, Body: []api.Stmt{{Op: api.StEmpty, At: 21}}},
				{Op: api.StArm, At: 23, Ranges: []api.Range{{}}},
			},
			Else: []api.Stmt{{Op: api.StReturn, At: 31}},
		},
		"CASE 1 OF -2147483648..2147483648, 5..-0: END_CASE;": {Op: api.StCase, Exprs: []api.Expr{number(5, 1)}, Body: []api.Stmt{{Op: api.StArm, At: 10, Ranges: []api.Range{{Lo: -1 << 31, Hi: 1 << 31}, {Lo: 5}}}}},
		"CASE a OF END_CASE;":                   {Op: api.StCase, Exprs: []api.Expr{name(5, "A")}},
		"FOR i := 1 TO a BY -1 DO ; END_FOR;":   {Op: api.StFor, Name: "I", Exprs: []api.Expr{number(9, 1), name(14, "A"), turned(api.OpNeg, 19, number(20, 1))}, Body: []api.Stmt{{Op: api.StEmpty, At: 25}}},
		"FOR i := 1 TO 2 DO END_FOR;":           {Op: api.StFor, Name: "I", Exprs: []api.Expr{number(9, 1), number(14, 2)}},
		"{bound 3} WHILE a DO ; END_WHILE;":     {Op: api.StWhile, Num: 3, Exprs: []api.Expr{name(16, "A")}, Body: []api.Stmt{{Op: api.StEmpty, At: 21}}},
		"{BOUND 9}REPEAT ; UNTIL a END_REPEAT;": {Op: api.StRepeat, Num: 9, Exprs: []api.Expr{name(24, "A")}, Body: []api.Stmt{{Op: api.StEmpty, At: 16}}},
		"EXIT;":                                 {Op: api.StExit},
		"RETURN;":                               {Op: api.StReturn},
		";":                                     {Op: api.StEmpty},
		"a[i] := b.c;":                          {Op: api.StSet, Exprs: []api.Expr{{Op: api.ExIndex, Name: "A", Kids: []api.Expr{name(2, "I")}}, {Op: api.ExField, At: 8, Name: "B", Field: "C"}}},
		"a := int#-5;":                          {Op: api.StSet, Exprs: []api.Expr{name(0, "A"), {Op: api.ExLit, At: 5, Value: five}}},
		"a := 'x$'';":                           {Op: api.StSet, Exprs: []api.Expr{name(0, "A"), {Op: api.ExLit, At: 5, Value: api.Value{Kind: api.KString, Text: "x'"}}}},
		"a := f(y:=1);":                         {Op: api.StSet, Exprs: []api.Expr{name(0, "A"), {Op: api.ExCall, At: 5, Name: "F", Kids: []api.Expr{number(10, 1)}, Names: []string{"Y"}}}},
		"a := f();":                             {Op: api.StSet, Exprs: []api.Expr{name(0, "A"), {Op: api.ExCall, At: 5, Name: "F"}}},
	} {
		if got := parsed(t, src); !alike(got, []api.Stmt{want}) {
			t.Errorf("%q:\n got %+v\nwant %+v", src, got, want)
		}
	}
}

// What binds more, and rows that group from the left.
func TestOperations(t *testing.T) {
	a, b, c := func(at int) api.Expr { return name(at, "A") }, func(at int) api.Expr { return name(at, "B") }, func(at int) api.Expr { return name(at, "C") }
	for src, want := range map[string]api.Expr{
		"a = b < c":         two(api.OpEq, 2, a(0), two(api.OpLt, 6, b(4), c(8))),
		"-a * b":            two(api.OpMul, 3, turned(api.OpNeg, 0, a(1)), b(5)),
		"NOT a AND b":       two(api.OpAnd, 6, turned(api.OpNot, 0, a(4)), b(10)),
		"a - b - c":         two(api.OpSub, 6, two(api.OpSub, 2, a(0), b(4)), c(8)),
		"a - (b - c)":       two(api.OpSub, 2, a(0), two(api.OpSub, 7, b(5), c(9))),
		"a OR b XOR c":      two(api.OpOr, 2, a(0), two(api.OpXor, 7, b(5), c(11))),
		"a XOR b AND c":     two(api.OpXor, 2, a(0), two(api.OpAnd, 8, b(6), c(12))),
		"a & b = c":         two(api.OpAnd, 2, a(0), two(api.OpEq, 6, b(4), c(8))),
		"a AND b OR c":      two(api.OpOr, 8, two(api.OpAnd, 2, a(0), b(6)), c(11)),
		"a < b = c":         two(api.OpEq, 6, two(api.OpLt, 2, a(0), b(4)), c(8)),
		"a < b < c":         two(api.OpLt, 6, two(api.OpLt, 2, a(0), b(4)), c(8)),
		"a >= b + c":        two(api.OpGe, 2, a(0), two(api.OpAdd, 7, b(5), c(9))),
		"a <= b":            two(api.OpLe, 2, a(0), b(5)),
		"a > b <> c":        two(api.OpNe, 6, two(api.OpGt, 2, a(0), b(4)), c(9)),
		"a + b * c":         two(api.OpAdd, 2, a(0), two(api.OpMul, 6, b(4), c(8))),
		"a MOD b / c":       two(api.OpDiv, 8, two(api.OpMod, 2, a(0), b(6)), c(10)),
		"a * -b":            two(api.OpMul, 2, a(0), turned(api.OpNeg, 4, b(5))),
		"- - a":             turned(api.OpNeg, 0, turned(api.OpNeg, 2, a(4))),
		"NOT - a":           turned(api.OpNot, 0, turned(api.OpNeg, 4, a(6))),
		"-5":                turned(api.OpNeg, 0, number(1, 5)),
		"((a))":             a(2),
		"a[b + c]":          {Op: api.ExIndex, Name: "A", Kids: []api.Expr{two(api.OpAdd, 4, b(2), c(6))}},
		"f(a, y := b) = c":  two(api.OpEq, 13, api.Expr{Op: api.ExCall, Name: "F", Kids: []api.Expr{a(2), b(10)}, Names: []string{"", "Y"}}, c(15)),
		"-(a + b)":          turned(api.OpNeg, 0, two(api.OpAdd, 4, a(2), b(6))),
		"NOT (a) AND NOT b": two(api.OpAnd, 8, turned(api.OpNot, 0, a(5)), turned(api.OpNot, 12, b(16))),
	} {
		got, err := st.Expr(src)
		if err != nil || !reflect.DeepEqual(tidyExprs([]api.Expr{got}), tidyExprs([]api.Expr{want})) {
			t.Errorf("%q:\n got %+v %v\nwant %+v", src, got, err, want)
		}
	}
}
