package core_test

import (
	"errors"
	"fmt"
	"strings"
	"testing"

	"relay/api"
	"relay/core"
	"relay/decl"
	"relay/layout"
	"relay/st"
)

// parsed is what sources declare, and the bodies of their POUs, all of them in ST.
func parsed(t *testing.T, sources ...string) (api.Project, [][]api.Stmt) {
	t.Helper()
	p, source, err := decl.Parse(sources)
	if err != nil {
		t.Fatal(sources[source], err)
	}
	var bodies [][]api.Stmt
	for _, u := range p.Pous {
		l, err := st.Parse(u.Text)
		if err != nil {
			t.Fatal(u.Name, u.Text, err)
		}
		bodies = append(bodies, l)
	}
	if _, _, err := layout.Cells(p); err != nil {
		t.Fatal(sources, err)
	}
	return p, bodies
}

// prelude is types, functions and function blocks that the bodies under test know.
const prelude = `TYPE level : INT (0..100); high : USINT (3..9); color : (red, green); short : STRING[4]; row : ARRAY [1..4] OF INT; END_TYPE
FUNCTION plain : DINT VAR_INPUT a : INT; b : level; END_VAR END_FUNCTION
FUNCTION given : LREAL VAR_INPUT h : high; k : INT := 5; s : short := 'xy'; u : STRING; END_VAR END_FUNCTION
FUNCTION refs : BOOL VAR_INPUT a : BOOL; END_VAR VAR_IN_OUT i : INT; l : level; s : short; END_VAR END_FUNCTION
FUNCTION none : INT END_FUNCTION
FUNCTION_BLOCK blk VAR_INPUT x : BOOL; n : level; s : short; END_VAR VAR_IN_OUT r : INT; END_VAR VAR_OUTPUT q : SINT; w : DINT; END_VAR VAR inner : INT; END_VAR VAR_TEMP tmp : INT; END_VAR END_FUNCTION_BLOCK
FUNCTION_BLOCK bare END_FUNCTION_BLOCK
`

// config is a configuration with global variables.
const config = `CONFIGURATION cfg VAR_GLOBAL g : INT; ga : ARRAY [0..2] OF DINT; END_VAR VAR_GLOBAL CONSTANT gc : INT := 3; END_VAR RESOURCE r ON plc END_RESOURCE END_CONFIGURATION`

// under is the number of the program under test, behind the prelude's POUs.
const under = 6

func program(vars, body string) string {
	return prelude + "PROGRAM p " + sections(vars) + " " + body + " END_PROGRAM " + config
}

// sections is variables as a section, unless they are sections already.
func sections(vars string) string {
	if strings.Contains(vars, "END_VAR") {
		return vars
	}
	return "VAR " + vars + " END_VAR"
}

// body is the typed statements of a program with such variables.
func body(t *testing.T, vars, text string) []api.Stmt {
	t.Helper()
	p, bodies := parsed(t, program(vars, text))
	codes, pou, err := core.Check(p, bodies)
	if err != nil || pou != 0 || len(codes) != len(p.Pous) {
		t.Fatal(vars, text, pou, err)
	}
	return codes[under].Body
}

// row is a body and its typed text.
type row struct{ text, want string }

func checkTyped(t *testing.T, vars string, rows []row) {
	t.Helper()
	for _, r := range rows {
		if got := typed(body(t, vars, r.text)); got != r.want {
			t.Errorf("%s\n got %s\nwant %s", r.text, got, r.want)
		}
	}
}

// wrong is a body, ^ ahead of the place at which it has a fault.
type wrong struct {
	text string
	why  api.Errno
}

func checkFaults(t *testing.T, vars string, rows []wrong) {
	t.Helper()
	for _, r := range rows {
		at := strings.Index(r.text, "^")
		p, bodies := parsed(t, program(vars, strings.Replace(r.text, "^", "", 1)))
		// The body's text begins with a blank.
		checkFault(t, r.text, p, bodies, under, at+1, r.why)
	}
}

// checkFault: what Check answers is just one fault, and nothing else.
func checkFault(t *testing.T, what string, p api.Project, bodies [][]api.Stmt, pou, at int, why api.Errno) {
	t.Helper()
	codes, in, err := core.Check(p, bodies)
	var fault api.Fault
	is := errors.As(err, &fault)
	if codes != nil || in != pou || !is || fault != (api.Fault{At: at, Why: why}) || !errors.Is(err, why) {
		t.Errorf("%s: %d, %v in %d; want %v at %d in %d", what, len(codes), err, in, why, at, pou)
	}
	if _, is := err.(api.Fault); !is {
		t.Error(what, fmt.Sprintf("%T", err))
	}
}
