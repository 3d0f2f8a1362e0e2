package meaning_test

import (
	"testing"

	"relay/api"
	"relay/core"
	"relay/decl"
	"relay/layout"
	"relay/meaning"
	"relay/st"
	"relay/value"
)

// plant is a project that was typed, and the values of its cells.
type plant struct {
	p     api.Project
	codes []api.Code
	cells []api.Cell
	mem   []api.Value
}

// built is the plant of sources, whose bodies are all in ST.
func built(t *testing.T, sources ...string) *plant {
	t.Helper()
	p, _, err := decl.Parse(sources)
	if err != nil {
		t.Fatal(sources, err)
	}
	var bodies [][]api.Stmt
	for _, u := range p.Pous {
		l, err := st.Parse(u.Text)
		if err != nil {
			t.Fatal(u.Text, err)
		}
		bodies = append(bodies, l)
	}
	return typed(t, p, bodies)
}

// typed is the plant of a project with such bodies.
func typed(t *testing.T, p api.Project, bodies [][]api.Stmt) *plant {
	t.Helper()
	codes, pou, err := core.Check(p, bodies)
	cells, _, other := layout.Cells(p)
	if err != nil || other != nil {
		t.Fatal(pou, err, other)
	}
	x := &plant{p: p, codes: codes, cells: cells}
	for _, c := range cells {
		x.mem = append(x.mem, c.Init)
	}
	return x
}

const unbounded = 1 << 40

// run runs the first program's instance once, with so many rules at most.
func (x *plant) run(most int) ([]api.Value, int, int) {
	pou, base := x.first()
	return meaning.Run(x.codes, pou, base, 0, x.cells, x.mem, most)
}

// first is the program of the first run, and where its instance begins.
func (x *plant) first() (int, int) {
	pou, _ := layout.Pou(x.p, x.p.Runs[0].Pou)
	base, _ := layout.Run(x.p, 0)
	return pou, base
}

// at is where a variable of the first run's program lies.
func (x *plant) at(name string) int {
	pou, base := x.first()
	ahead, _, _ := layout.Find(x.p, pou, name)
	return base + ahead
}

// set gives a variable of the first run's program a number.
func (x *plant) set(t *testing.T, name string, n int) *plant {
	t.Helper()
	v, fault := value.Int(x.cells[x.at(name)].Kind, n)
	if fault != 0 {
		t.Fatal(name, n)
	}
	x.mem[x.at(name)] = v
	return x
}

// prelude is types, functions and function blocks that the bodies under test know.
const prelude = `TYPE level : INT (0..100); color : (red, green); short : STRING[4]; END_TYPE
FUNCTION plain : DINT VAR_INPUT a : INT; b : level; END_VAR plain := a; END_FUNCTION
FUNCTION words : INT VAR_INPUT s : short; u : STRING; l : level; END_VAR words := LEN(s); END_FUNCTION
FUNCTION bump : INT VAR_IN_OUT r : INT; END_VAR r := r + 1; bump := r; END_FUNCTION
FUNCTION early : INT VAR_INPUT n : INT; END_VAR VAR x : INT := 3; END_VAR early := x; x := 9; IF n > 0 THEN RETURN; END_IF; early := -1; END_FUNCTION
FUNCTION_BLOCK blk VAR_INPUT n : level; s : short; END_VAR VAR_IN_OUT r : INT; END_VAR VAR_OUTPUT q : INT; END_VAR VAR c : INT; END_VAR VAR_TEMP tmp : INT := 4; END_VAR c := c + n; q := tmp; tmp := 0; r := bump(r) + c; END_FUNCTION_BLOCK
FUNCTION_BLOCK bare END_FUNCTION_BLOCK
`

const someVars = "i, n : INT; d : DINT; b : BOOL; lv : level; sh : short; s : STRING; a : ARRAY [1..4] OF INT; la : ARRAY [1..2] OF level; sa : ARRAY [1..2] OF short; k : TON; m : blk; e : bare; t : TIME; u : ULINT; l : LREAL; w : WORD; "

// of is the plant of a program over these variables with a body.
func of(t *testing.T, body string) *plant {
	t.Helper()
	return built(t, prelude+"PROGRAM p VAR "+someVars+"END_VAR "+body+" END_PROGRAM CONFIGURATION c RESOURCE r ON x PROGRAM m : p; END_RESOURCE END_CONFIGURATION")
}
