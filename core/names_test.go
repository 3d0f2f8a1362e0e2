package core_test

import (
	"testing"

	"relay/api"
	"relay/core"
)

const some = "i : INT; d : DINT; a : ARRAY [1..4] OF INT; lv : level; ra : row; k : TON; m : blk; sh : short; b : BOOL;"

// Variables, elements and fields lie in cells; what has none of these is refused.
func TestVariables(t *testing.T) {
	checkTyped(t, "VAR i : INT; a : ARRAY [-1..2] OF DINT; k : CTU; m : blk; END_VAR VAR_EXTERNAL g : INT; ga : ARRAY [0..2] OF DINT; END_VAR VAR CONSTANT c : INT := 5; END_VAR VAR z : SINT; END_VAR", []row{
		{"i := c;", "I:INT@T0 := C:INT@T19"},
		{"a[i] := a[-1];", "A[I:INT@T0]:DINT@T1(-1..2) := A[DINT#-1]:DINT@T1(-1..2)"},
		{"i := k.CV + k.PV;", "I:INT@T0 := (K.CV:INT@T9 + K.PV:INT@T7):INT"},
		{"i := m.n + m.q;", "I:INT@T0 := (M.N:INT@T12 + TO INT(M.Q:SINT@T15)):INT"},
		{"g := g + 1;", "G:INT@G0 := (G:INT@G0 + INT#1):INT"},
		{"ga[z] := ga[2];", "GA[Z:SINT@T20]:DINT@G1(0..2) := GA[DINT#2]:DINT@G1(0..2)"},
	})
	checkFaults(t, some, []wrong{
		{"i := ^x;", api.ErrUnknown}, {"i := ^x[1];", api.ErrUnknown}, {"i := ^x.q;", api.ErrUnknown}, {"i := ^p;", api.ErrUnknown}, {"i := ^plain;", api.ErrUnknown}, {"i := ^g;", api.ErrUnknown},
		{"i := ^a;", api.ErrMust}, {"i := ^ra;", api.ErrMust}, {"b := ^a = a;", api.ErrMust},
		{"b := ^k;", api.ErrPlace}, {"b := ^m = TRUE;", api.ErrPlace},
		{"i := ^i[1];", api.ErrPlace}, {"i := ^k[1];", api.ErrPlace}, {"i := ^red[1];", api.ErrPlace}, {"i := ^i.q;", api.ErrPlace}, {"i := ^a.q;", api.ErrPlace}, {"i := ^red.q;", api.ErrPlace},
		{"b := ^k.xx;", api.ErrUnknown}, {"b := ^k.m;", api.ErrUnknown}, {"i := ^m.inner;", api.ErrUnknown}, {"i := ^m.r;", api.ErrUnknown}, {"i := ^m.tmp;", api.ErrUnknown}, {"i := ^m.x1;", api.ErrUnknown},
		{"i := ^i[x];", api.ErrPlace}, {"i := ^x[y];", api.ErrUnknown}, {"i := a[^x];", api.ErrUnknown},
	})
}

// An index is of any integer kind; a number without a kind is a DINT.
func TestIndex(t *testing.T) {
	for _, k := range kinds() {
		vars := "n : " + k + "; a : ARRAY [1..4] OF INT; i : INT;"
		if len(k) >= 3 && k[len(k)-3:] == "INT" {
			checkTyped(t, vars, []row{{"i := a[n];", "I:INT@T5 := A[N:" + k + "@T0]:INT@T1(1..4)"}, {"a[n] := 1;", "A[N:" + k + "@T0]:INT@T1(1..4) := INT#1"}})
			continue
		}
		checkFaults(t, vars, []wrong{{"i := a[^n];", api.ErrMust}, {"a[^n] := 1;", api.ErrMust}})
	}
	checkTyped(t, some, []row{
		{"i := a[7];", "I:INT@T0 := A[DINT#7]:INT@T2(1..4)"}, {"i := a[-7];", "I:INT@T0 := A[DINT#-7]:INT@T2(1..4)"},
		{"i := a[2147483647];", "I:INT@T0 := A[DINT#2147483647]:INT@T2(1..4)"}, {"i := a[1 + 2];", "I:INT@T0 := A[(DINT#1 + DINT#2):DINT]:INT@T2(1..4)"},
		{"i := a[green];", "I:INT@T0 := A[INT#1]:INT@T2(1..4)"}, {"i := a[a[i]];", "I:INT@T0 := A[A[I:INT@T0]:INT@T2(1..4)]:INT@T2(1..4)"},
	})
	checkFaults(t, some, []wrong{{"i := a[^2147483648];", api.ErrMust}, {"a[^-2147483649] := 1;", api.ErrMust}, {"i := a[^1.5];", api.ErrMust}, {"i := a[i ^= 1];", api.ErrMust}})
}

// Names mean a POU's own variables ahead of the names of values; a function's own name is its result.
func TestOwnNames(t *testing.T) {
	p, bodies := parsed(t, prelude+"FUNCTION f : DINT VAR_INPUT x : INT; END_VAR VAR red : BOOL; END_VAR f := f + x; red := NOT red; END_FUNCTION "+config)
	codes, _, err := core.Check(p, bodies)
	if err != nil {
		t.Fatal(err)
	}
	c := codes[under]
	if c.Name != "F" || c.What != api.PouFunction || c.Cells != 3 || c.Base != 19 {
		t.Error(c)
	}
	want := "F:DINT@T0 := DINT#0; RED:BOOL@T2 := BOOL#FALSE; F:DINT@T0 := (F:DINT@T0 + TO DINT(X:INT@T1)):DINT; RED:BOOL@T2 := (NOT RED:BOOL@T2):BOOL"
	if got := typed(c.Body); got != want {
		t.Errorf("\n got %s\nwant %s", got, want)
	}
	// Another function's name is no variable.
	checkFaults(t, "i : INT;", []wrong{
		{"^none := 1;", api.ErrUnknown}, {"i := ^none;", api.ErrUnknown}, {"^FOR none := 1 TO 2 DO END_FOR;", api.ErrUnknown}, {"^none();", api.ErrUnknown},
	})
}

// A VarInOut is referred to.
func TestRefs(t *testing.T) {
	p, bodies := parsed(t, prelude+"FUNCTION_BLOCK f VAR_IN_OUT i : INT; l : level; s : short; END_VAR VAR b : BOOL; END_VAR i := i + 1; l := i; s := s; b := refs(b, i, l, s); END_FUNCTION_BLOCK "+config)
	codes, _, err := core.Check(p, bodies)
	if err != nil {
		t.Fatal(err)
	}
	want := "I:INT@R0 := (I:INT@R0 + INT#1):INT; L:INT@R1 := I:INT@R0 0..100; S:STRING@R2 := S:STRING@R2 4 bytes; " +
		"B:BOOL@T3 := REFS#2@13{1:BOOL=B:BOOL@T3, 2:REF=&I:INT@R0, 3:REF=&L:INT@R1, 4:REF=&S:STRING@R2}:BOOL"
	if got := typed(codes[under].Body); got != want {
		t.Errorf("\n got %s\nwant %s", got, want)
	}
}

// StSet: what is a place, and may be assigned; of several faults the first.
func TestAssigned(t *testing.T) {
	vars := "VAR " + some + " END_VAR VAR CONSTANT c : INT; ca : ARRAY [1..2] OF INT; END_VAR VAR_INPUT in : INT; END_VAR VAR_OUTPUT out : INT; END_VAR VAR_TEMP tmp : INT; END_VAR " +
		"VAR_EXTERNAL g : INT; gc : INT; END_VAR VAR_EXTERNAL CONSTANT ga : ARRAY [0..2] OF DINT; END_VAR"
	checkTyped(t, vars, []row{
		{"out := in;", "TMP:INT@T32 := INT#0; OUT:INT@T31 := IN:INT@T30"},
		{"tmp := c;", "TMP:INT@T32 := INT#0; TMP:INT@T32 := C:INT@T27"},
		{"lv := gc;", "TMP:INT@T32 := INT#0; LV:INT@T6 := GC:INT@G4 0..100"},
		{"sh := 'x';", "TMP:INT@T32 := INT#0; SH:STRING@T25 := STRING#x 4 bytes"},
		{"ra[i] := ca[1];", "TMP:INT@T32 := INT#0; RA[I:INT@T0]:INT@T7(1..4) := CA[DINT#1]:INT@T28(1..2)"},
	})
	checkFaults(t, vars, []wrong{
		{"^x := 1;", api.ErrUnknown}, {"^x[1] := 1;", api.ErrUnknown}, {"^x.q := 1;", api.ErrUnknown}, {"^p := 1;", api.ErrUnknown},
		{"^k := 1;", api.ErrPlace}, {"^red := 1;", api.ErrPlace}, {"^k.IN := TRUE;", api.ErrPlace}, {"^m.q := 1;", api.ErrPlace}, {"^k.xx := TRUE;", api.ErrPlace}, {"^i.q := 1;", api.ErrPlace},
		{"^i[1] := 1;", api.ErrPlace}, {"^k[1] := 1;", api.ErrPlace}, {"^red[1] := 1;", api.ErrPlace}, {"^in[1] := 1;", api.ErrPlace},
		{"^a := 1;", api.ErrMust}, {"^ca := 1;", api.ErrMust}, {"^ga := 1;", api.ErrMust},
		{"^in := 1;", api.ErrAssign}, {"^c := 1;", api.ErrAssign}, {"^gc := 1;", api.ErrAssign}, {"^ca[1] := 1;", api.ErrAssign}, {"^ga[1] := 1;", api.ErrAssign}, {"^ca[x] := 1;", api.ErrAssign},
		{"a[^x] := y;", api.ErrUnknown}, {"a[1] := ^y;", api.ErrUnknown}, {"^in := x;", api.ErrAssign}, {"i := ^x + y;", api.ErrUnknown}, {"i := 1 + ^y;", api.ErrUnknown},
		{"i := ^d; d := y;", api.ErrMust},
	})
}

// A VarExternal has its global variable, of the same type.
func TestExternal(t *testing.T) {
	src := func(global, external string) string {
		return "TYPE level : INT (0..100); color : (red, green); END_TYPE PROGRAM p VAR i : INT; END_VAR VAR_EXTERNAL " + external + " END_VAR END_PROGRAM CONFIGURATION c VAR_GLOBAL " + global + " END_VAR RESOURCE r ON x END_RESOURCE END_CONFIGURATION"
	}
	for _, x := range []struct {
		global, external string
		why              api.Errno
	}{
		{"", "g : INT;", api.ErrUnknown}, {"h : INT;", "g : INT;", api.ErrUnknown}, {"g : INT;", "g : INT;", api.OK}, {"g : DINT;", "g : INT;", api.ErrMust},
		{"g : INT (0..100);", "g : level;", api.OK}, {"g : INT (0..99);", "g : level;", api.ErrMust}, {"g : level;", "g : INT;", api.ErrMust}, {"g : INT (-1..100);", "g : level;", api.ErrMust},
		{"g : STRING[4];", "g : STRING;", api.ErrMust}, {"g : STRING[254];", "g : STRING;", api.ErrMust}, {"g : STRING[4];", "g : STRING[4];", api.OK},
		{"g : ARRAY [1..2] OF INT;", "g : ARRAY [1..2] OF INT;", api.OK}, {"g : ARRAY [1..3] OF INT;", "g : ARRAY [1..2] OF INT;", api.ErrMust}, {"g : ARRAY [0..1] OF INT;", "g : ARRAY [1..2] OF INT;", api.ErrMust},
		{"g : ARRAY [1..2] OF INT;", "g : INT;", api.ErrMust}, {"g : color;", "g : INT (0..1);", api.OK},
	} {
		text := src(x.global, x.external)
		p, bodies := parsed(t, text)
		if x.why == api.OK {
			if _, _, err := core.Check(p, bodies); err != nil {
				t.Error(x, err)
			}
			continue
		}
		checkFault(t, text, p, bodies, 0, p.Pous[0].Vars[1].At, x.why)
	}
}

// What variables can't be is told in their order, ahead of the statements of their POU, behind those of the POUs ahead.
func TestVariablesFirst(t *testing.T) {
	src := "PROGRAM a VAR i : INT; END_VAR i := 1; END_PROGRAM PROGRAM b VAR_EXTERNAL g : INT; h : INT; END_VAR x := 1; END_PROGRAM CONFIGURATION c VAR_GLOBAL h : BOOL; END_VAR RESOURCE r ON x END_RESOURCE END_CONFIGURATION"
	p, bodies := parsed(t, src)
	checkFault(t, src, p, bodies, 1, p.Pous[1].Vars[0].At, api.ErrUnknown)
	p.Pous[1].Vars = p.Pous[1].Vars[1:]
	checkFault(t, src, p, bodies, 1, p.Pous[1].Vars[0].At, api.ErrMust)
	p.Globals[0].Type = api.Type{Kind: api.KInt}
	checkFault(t, src, p, bodies, 1, 1, api.ErrUnknown)
	bodies[0][0].Exprs[0].Name = "NO"
	checkFault(t, src, p, bodies, 0, 1, api.ErrUnknown)
}

// Instances stand in no function; VarInOuts are no arrays and no instances; a function's result is no instance. (decl refuses most of these itself.)
func TestInstancesPlaces(t *testing.T) {
	src := "FUNCTION_BLOCK fb END_FUNCTION_BLOCK FUNCTION f : INT VAR i : INT; END_VAR END_FUNCTION FUNCTION_BLOCK b VAR_IN_OUT x : INT; END_VAR END_FUNCTION_BLOCK PROGRAM p VAR k : fb; END_VAR END_PROGRAM"
	for _, x := range []struct {
		pou int
		of  api.Type
		why api.Errno
	}{
		{1, api.Type{Block: "FB"}, api.ErrPlace}, {1, api.Type{Block: "TON"}, api.ErrPlace}, {2, api.Type{Kind: api.KInt, Array: true, From: 1, To: 2}, api.ErrMust},
		{2, api.Type{Block: "TON"}, api.ErrMust}, {2, api.Type{Block: "FB"}, api.ErrMust}, {3, api.Type{Block: "F"}, api.ErrPlace}, {3, api.Type{Block: "P"}, api.ErrPlace}, {3, api.Type{Block: "NO"}, api.ErrPlace},
	} {
		p, bodies := parsed(t, src)
		v := &p.Pous[x.pou].Vars[0]
		v.Type = x.of
		checkFault(t, src, p, bodies, x.pou, v.At, x.why)
	}
	p, bodies := parsed(t, "TYPE t : TON; END_TYPE FUNCTION f : t END_FUNCTION PROGRAM p VAR i : INT; END_VAR i := f(); END_PROGRAM")
	checkFault(t, "f", p, bodies, 0, 0, api.ErrPlace)
	// A call of it stands ahead of the function here.
	p.Pous[0], p.Pous[1] = p.Pous[1], p.Pous[0]
	bodies[0], bodies[1] = bodies[1], bodies[0]
	checkFault(t, "p", p, bodies, 0, 6, api.ErrPlace)
}

// There must be as many bodies as POUs.
func TestBodies(t *testing.T) {
	p, bodies := parsed(t, prelude)
	if codes, pou, err := core.Check(p, bodies); err != nil || pou != 0 || len(codes) != under {
		t.Error(codes, pou, err)
	}
	checkFault(t, "fewer", p, bodies[1:], 0, 0, api.ErrArg)
	checkFault(t, "none", p, nil, 0, 0, api.ErrArg)
	checkFault(t, "more", p, append(bodies[:under:under], nil), 0, 0, api.ErrArg)
	// It is told ahead of all else.
	p.Pous[0].Vars[0].Type.Block = "TON"
	checkFault(t, "first", p, bodies[1:], 0, 0, api.ErrArg)
	if codes, pou, err := core.Check(api.Project{}, nil); err != nil || pou != 0 || len(codes) != 0 {
		t.Error(codes, pou, err)
	}
}

// A code tells its POU's name, what it is, its cells, and of functions where their frames begin.
func TestCodes(t *testing.T) {
	p, bodies := parsed(t, program(some, ";"))
	codes, _, err := core.Check(p, bodies)
	if err != nil {
		t.Fatal(err)
	}
	want := []api.Code{
		{Name: "PLAIN", What: api.PouFunction, Cells: 3, Base: 5}, {Name: "GIVEN", What: api.PouFunction, Cells: 5, Base: 8}, {Name: "REFS", What: api.PouFunction, Cells: 5, Base: 13},
		{Name: "NONE", What: api.PouFunction, Cells: 1, Base: 18}, {Name: "BLK", What: api.PouBlock, Cells: 8, Base: -1}, {Name: "BARE", What: api.PouBlock, Cells: 0, Base: -1}, {Name: "P", What: api.PouProgram, Cells: 27, Base: -1},
	}
	for i, c := range codes {
		if w := want[i]; c.Name != w.Name || c.What != w.What || c.Cells != w.Cells || c.Base != w.Base {
			t.Error(c, w)
		}
	}
}
