package ir_test

import (
	"strconv"
	"strings"
	"testing"

	"relay/api"
	"relay/listing"
	"relay/stdlib"
)

// Every row of the table of expressions, through assignments.
func TestExpressions(t *testing.T) {
	check(t, []row{
		// ExLit
		{"d := 5;", "const DINT#5; store B1 C2"},
		{"i := -7;", "const INT#-7; store B1 C1"},
		{"s := 'abc';", "const STRING'abc; text H254; store B1 C8"},
		{"b := TRUE;", "const TRUE; store B1 C3"},
		{"l := 1;", "const LREAL#4607182418800017408; store B1 C22"},
		{"u := 18446744073709551615;", "const ULINT#18446744073709551615; store B1 C25"},
		{"t := T#1s;", "const TIME#1000000000; store B1 C24"},
		// ExName, ExField
		{"i := i;", "load B1 C1; store B1 C1"},
		{"i := g;", "load B2; store B1 C1"},
		{"g := i;", "load B1 C1; store B2"},
		{"b := k.q;", "load B1 C13; store B1 C3"},
		{"i := m.q;", "load B1 C19; store B1 C1"},
		// ExIndex
		{"i := a[i];", "load B1 C1; loadx A1 B1 C4 L1 H4; store A1 B1 C1"},
		{"i := a[3];", "const DINT#3; loadx A1 B1 C4 L1 H4; store A1 B1 C1"},
		{"d := ga[z];", "load B1 C26; loadx A1 B2 C1 H2; store A1 B1 C2"},
		{"i := a[a[i]];", "load B1 C1; loadx A1 B1 C4 L1 H4; loadx A2 B1 C4 D1 L1 H4; store A2 B1 C1"},
		{"i := i + a[i];", "load B1 C1; load A1 B1 C1; loadx A2 B1 C4 D1 L1 H4; do A3 C2 add; store A3 B1 C1"},
		// OpNeg, OpNot
		{"i := -i;", "load B1 C1; turn A1 neg; store A1 B1 C1"},
		{"b := NOT b;", "load B1 C3; turn A1 not; store A1 B1 C3"},
		{"b := NOT NOT b;", "load B1 C3; turn A1 not; turn A2 B1 not; store A2 B1 C3"},
		// OpAdd to OpGe
		{"i := i + 1;", "load B1 C1; const A1 INT#1; do A2 C1 add; store A2 B1 C1"},
		{"i := 1 - i;", "const INT#1; load A1 B1 C1; do A2 C1 sub; store A2 B1 C1"},
		{"i := (i + g) * (g - i);", "load B1 C1; load A1 B2; do A2 C1 add; load A3 B2; load A4 B1 C1; do A5 B3 C4 sub; do A6 B2 C5 mul; store A6 B1 C1"},
		{"b := i < d;", "load B1 C1; conv A1 DINT; load A2 B1 C2; do A3 B1 C2 lt; store A3 B1 C3"},
		// ExConv
		{"d := i;", "load B1 C1; conv A1 DINT; store A1 B1 C2"},
		{"l := z;", "load B1 C26; conv A1 LREAL; store A1 B1 C22"},
		{"t := t * i;", "load B1 C24; load A1 B1 C1; conv A2 B1 LINT; do A3 C2 mul; store A3 B1 C24"},
	})
}

// Every operation of two operands.
func TestOperations(t *testing.T) {
	for i, r := range []struct{ sign, word, vars string }{
		{"+", "add", "i i 1"}, {"-", "sub", "i i 1"}, {"*", "mul", "i i 1"}, {"/", "div", "i i 1"}, {"MOD", "mod", "i i 1"},
		{"AND", "and", "b b 3"}, {"OR", "or", "w w 23"}, {"XOR", "xor", "b b 3"},
		{"=", "eq", "i b 1"}, {"<>", "ne", "s b 8"}, {"<", "lt", "l b 22"}, {"<=", "le", "t b 24"}, {">", "gt", "w b 23"}, {">=", "ge", "b b 3"},
	} {
		l := strings.Fields(r.vars)
		to := map[string]string{"i": "C1", "b": "C3", "w": "C23"}[l[1]]
		f := flat(t, codeOf(t, l[1]+" := "+l[0]+" "+r.sign+" "+l[0]+";", under))
		want := "load B1 C" + l[2] + "; load A1 B1 C" + l[2] + "; do A2 C1 " + r.word + "; store A2 B1 " + to + "; return"
		if got := listing.Text(f); got != want || f.Ops[2].D != i+1 {
			t.Errorf("%s\n got %s\nwant %s", r.sign, got, want)
		}
	}
}

// Calls of standard functions: all arguments first, then all IrArgs.
func TestStandardCalls(t *testing.T) {
	number := func(name string, kinds ...api.Kind) string {
		fn, _, why := stdlib.Find(name, kinds)
		if why != api.OK || fn == 0 {
			t.Fatal(name, why)
		}
		return " D" + strconv.Itoa(fn)
	}
	most, least := number("MAX", api.KInt, api.KInt), number("MIN", api.KInt, api.KInt)
	size, join := number("LEN", api.KString), number("CONCAT", api.KString, api.KString)
	mux := number("MUX", api.KInt, api.KInt, api.KInt, api.KInt)
	check(t, []row{
		{"i := MAX(i, 3);", "load B1 C1; const A1 INT#3; arg; arg A1; std A2 C2" + most + "; store A2 B1 C1"},
		{"i := MAX(i, MIN(3, i));", "load B1 C1; const A1 INT#3; load A2 B1 C1; arg A1; arg A2; std A3 C2" + least + "; arg; arg A3; std A4 C2" + most + "; store A4 B1 C1"},
		{"i := MAX(IN2 := g, IN1 := i);", "load B1 C1; load A1 B2; arg; arg A1; std A2 C2" + most + "; store A2 B1 C1"},
		{"i := LEN(s);", "load B1 C8; arg; std A1 C1" + size + "; store A1 B1 C1"},
		{"sh := CONCAT(sh, 'x');", "load B1 C9; const A1 STRING'x; arg; arg A1; std A2 C2" + join + "; text A2 H4; store A2 B1 C9"},
		{"i := MUX(i, a[1], 7, g);", "load B1 C1; const A1 DINT#1; loadx A2 B1 C4 D1 L1 H4; const A3 INT#7; load A4 B2; arg; arg A2; arg A3; arg A4; std A5 C4" + mux + "; store A5 B1 C1"},
	})
}

// Calls of the project's functions: all arguments first; then each one's bounds, and its store.
func TestFunctionCalls(t *testing.T) {
	check(t, []row{
		{"i := inc(i);", "load B1 C1; store B2 C11; call B2 C2 D10; load A1 B2 C10; store A1 B1 C1"},
		{"i := inc();", "const INT#0; store B2 C11; call B2 C2 D10; load A1 B2 C10; store A1 B1 C1"},
		{"d := plain(i, lv, sh);", "load B1 C1; load A1 B1 C10; load A2 B1 C9; store B2 C5; check A1 H100; store A1 B2 C6; text A2 H4; store A2 B2 C7; call C2 D4; load A3 B2 C4; store A3 B1 C2"},
		{"d := plain(s := s, a := z);", "load B1 C26; conv A1 INT; const A2 INT#0; load A3 B1 C8; store A1 B2 C5; check A2 H100; store A2 B2 C6; text A3 H4; store A3 B2 C7; call C2 D4; load A4 B2 C4; store A4 B1 C2"},
		// Within one another: the inner one is called ahead of the outer one's stores.
		{"i := inc(inc(i) + inc(5));", "load B1 C1; store B2 C11; call B2 C2 D10; load A1 B2 C10; const A2 INT#5; store A2 B2 C11; call B2 C2 D10; load A3 B2 C10; do A4 B1 C3 add; store A4 B2 C11; call B2 C2 D10; load A5 B2 C10; store A5 B1 C1"},
		{"d := plain(inc(1), lv, 'x');", "const INT#1; store B2 C11; call B2 C2 D10; load A1 B2 C10; load A2 B1 C10; const A3 STRING'x; store A1 B2 C5; check A2 H100; store A2 B2 C6; text A3 H4; store A3 B2 C7; call C2 D4; load A4 B2 C4; store A4 B1 C2"},
		// ExRef of a name, of a global one, of an element
		{"i := bump(i);", "ref B1 C1; store B2 C9; call B1 C2 D8; load A1 B2 C8; store A1 B1 C1"},
		{"i := bump(g);", "ref B2; store B2 C9; call B1 C2 D8; load A1 B2 C8; store A1 B1 C1"},
		{"i := bump(a[i]);", "load B1 C1; refx A1 B1 C4 L1 H4; store A1 B2 C9; call B1 C2 D8; load A2 B2 C8; store A2 B1 C1"},
		{"i := bump(a[inc(2)]);", "const INT#2; store B2 C11; call B2 C2 D10; load A1 B2 C10; refx A2 B1 C4 D1 L1 H4; store A2 B2 C9; call B1 C2 D8; load A3 B2 C8; store A3 B1 C1"},
	})
	// A field as a place of a reference is nothing that core makes; it is as a name all the same.
	field := api.Expr{Op: api.ExField, Area: api.AreaThis, Ref: 7}
	set := api.Stmt{Op: api.StSet, Exprs: []api.Expr{field, {Op: api.ExRef, Kids: []api.Expr{field}}}}
	if got := listing.Text(flat(t, api.Code{Body: []api.Stmt{set}})); got != "ref B1 C7; store B1 C7; return" {
		t.Error(got)
	}
}

// What a function and a function block have: a VarInOut is AreaRef, as a value, as a place and as a reference; temporary variables are set first.
func TestFunctionsAndBlocks(t *testing.T) {
	for pou, want := range map[int]string{
		plain: "const DINT#0; store B1; return",
		bump:  "const INT#0; store B1; load A1 B3 C1; const A2 INT#1; do A3 B1 C2 add; store A3 B3 C1; load A4 B3 C1; store A4 B2 C11; call B2 C2 D10; load A5 B2 C10; store A5 B1; return",
		inc:   "const INT#0; store B1; load A1 B1 C1; store A1 B1; return",
		blk: "const INT#0; check H100; store B1 C3; const A1 INT#0; check A1 H100; store A1 B1 C4; " +
			"ref A2 B3 C1; store A2 B2 C9; call B1 C2 D8; load A3 B2 C8; store A3 B3 C1; load A4 B3 C1; loadx A5 B1 C3 D4 L1 H2; store A5 B1 C2; return",
	} {
		if got := listing.Text(flat(t, codeOf(t, "", pou))); got != want {
			t.Errorf("%d\n got %s\nwant %s", pou, got, want)
		}
	}
}
