package ir_test

import (
	"testing"

	"relay/api"
	"relay/core"
	"relay/decl"
	"relay/ir"
	"relay/listing"
	"relay/st"
)

// parsed is what sources declare, and the bodies of their POUs, all of them in ST.
func parsed(t *testing.T, sources ...string) (api.Project, [][]api.Stmt) {
	t.Helper()
	p, _, err := decl.Parse(sources)
	if err != nil {
		t.Fatal(sources, err)
	}
	var bodies [][]api.Stmt
	for _, u := range p.Pous {
		l, err := st.Parse(u.Text)
		if err != nil {
			t.Fatal(u.Text, err)
		}
		bodies = append(bodies, l)
	}
	return p, bodies
}

// typed is the codes of a project with such bodies.
func typed(t *testing.T, p api.Project, bodies [][]api.Stmt) []api.Code {
	t.Helper()
	codes, pou, err := core.Check(p, bodies)
	if err != nil {
		t.Fatal(p.Pous[pou].Text, err)
	}
	return codes
}

// prelude is what the bodies under test know. G is the cell 0, GA the cells 1 to 3; the frame of PLAIN begins at 4, that of BUMP at 8, that of INC at 10.
const prelude = `TYPE level : INT (0..100); short : STRING[4]; END_TYPE
FUNCTION plain : DINT VAR_INPUT a : INT; b : level; s : short; END_VAR END_FUNCTION
FUNCTION bump : INT VAR_IN_OUT r : INT; END_VAR r := r + 1; bump := inc(a := r); END_FUNCTION
FUNCTION inc : INT VAR_INPUT a : INT; END_VAR inc := a; END_FUNCTION
FUNCTION_BLOCK blk VAR_INPUT n : level; END_VAR VAR_IN_OUT r : INT; END_VAR VAR_OUTPUT q : INT; END_VAR VAR_TEMP v : ARRAY [1..2] OF level; END_VAR r := bump(r); q := v[r]; END_FUNCTION_BLOCK
`

// The numbers of POUs, in their order.
const (
	plain = iota
	bump
	inc
	blk
	under
)

// program is a program over variables: X0 is the cell 0, I 1, D 2, B 3, A 4 to 7, S 8, SH 9, LV 10, K 11 to 16, M 17 to 21, L 22, W 23, T 24, U 25, Z 26, LA 27 and 28, SA 29 and 30.
func program(body string) string {
	return prelude + `PROGRAM p VAR x0 : BOOL; i : INT; d : DINT; b : BOOL; a : ARRAY [1..4] OF INT; s : STRING; sh : short; lv : level; k : TON; m : blk;
l : LREAL; w : WORD; t : TIME; u : ULINT; z : SINT; la : ARRAY [1..2] OF level; sa : ARRAY [-1..0] OF short; END_VAR VAR_EXTERNAL g : INT; ga : ARRAY [0..2] OF DINT; END_VAR ` + body + ` END_PROGRAM
CONFIGURATION c VAR_GLOBAL g : INT; ga : ARRAY [0..2] OF DINT; END_VAR RESOURCE r ON x PROGRAM q : p; END_RESOURCE END_CONFIGURATION`
}

// codeOf is a POU's code, of the program with a body and the prelude.
func codeOf(t *testing.T, body string, pou int) api.Code {
	t.Helper()
	p, bodies := parsed(t, program(body))
	return typed(t, p, bodies)[pou]
}

// flat is a code's instructions, which must be there.
func flat(t *testing.T, c api.Code) api.Flat {
	t.Helper()
	f, why := ir.Build(c)
	if why != api.OK {
		t.Fatal(c.Name, why)
	}
	return f
}

// row is a body and the listing of its instructions, IrReturn aside.
type row struct{ body, want string }

// withReturn puts the last IrReturn into a listing: ahead of its loops.
func withReturn(instructions, loops string) string {
	if instructions != "" {
		instructions += "; "
	}
	instructions += "return"
	if loops != "" {
		instructions += "; " + loops
	}
	return instructions
}

func check(t *testing.T, rows []row) {
	t.Helper()
	for _, r := range rows {
		if got := listing.Text(flat(t, codeOf(t, r.body, under))); got != withReturn(r.want, "") {
			t.Errorf("%s\n got %s\nwant %s", r.body, got, withReturn(r.want, ""))
		}
	}
}
