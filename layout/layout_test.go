package layout_test

import (
	"errors"
	"fmt"
	"reflect"
	"strconv"
	"strings"
	"testing"

	"relay/api"
	"relay/layout"
	"relay/value"
)

const laid = "FUNCTION f : INT VAR_INPUT a : INT; END_VAR END_FUNCTION FUNCTION_BLOCK b VAR_INPUT x : BOOL; END_VAR VAR t : TON; END_VAR END_FUNCTION_BLOCK PROGRAM p VAR u, v : b; n : ARRAY [1..3] OF INT; END_VAR END_PROGRAM CONFIGURATION c VAR_GLOBAL g : INT; END_VAR RESOURCE r ON x PROGRAM m : p; END_RESOURCE END_CONFIGURATION"

// The chapter's examples.
func TestExamples(t *testing.T) {
	p := project(t, laid)
	for i, want := range []int{2, 7, 17} {
		if n, why := layout.Size(p, i); n != want || why != api.OK {
			t.Error(i, n, why)
		}
	}
	for _, x := range []struct {
		pou  int
		name string
		want int
	}{{0, "F", 0}, {0, "A", 1}, {1, "X", 0}, {1, "T", 1}, {2, "U", 0}, {2, "V", 7}, {2, "N", 14}} {
		if at, v, is := layout.Find(p, x.pou, x.name); at != x.want || v.Name != x.name || !is {
			t.Error(x, at, v, is)
		}
	}
	at, v, is := layout.Global(p, "G")
	base, isBase := layout.Base(p, 0)
	run, isRun := layout.Run(p, 0)
	l, source, err := layout.Cells(p)
	if at != 0 || v.Name != "G" || !is || base != 1 || !isBase || run != 3 || !isRun || len(l) != 20 || source != 0 || err != nil {
		t.Error(at, v, is, base, isBase, run, isRun, len(l), source, err)
	}
	p = project(t, "TYPE level : INT (5..9); END_TYPE FUNCTION_BLOCK b VAR x : b; END_VAR END_FUNCTION_BLOCK FUNCTION_BLOCK d VAR x : nothing; END_VAR END_FUNCTION_BLOCK CONFIGURATION c VAR_GLOBAL lv : level; END_VAR RESOURCE r ON x END_RESOURCE END_CONFIGURATION")
	if _, why := layout.Size(p, 0); why != api.ErrNest {
		t.Error(why)
	}
	if _, why := layout.Size(p, 1); why != api.ErrBlock {
		t.Error(why)
	}
	p.Pous = nil
	if l, _, err := layout.Cells(p); err != nil || len(l) != 1 || l[0].Init != (api.Value{Kind: api.KInt, Bits: 5}) {
		t.Error(l, err)
	}
	asModel(t, project(t, laid))
}

// P14.1: by the name, whatever the POU is; of several the first.
func TestPou(t *testing.T) {
	p := project(t, laid)
	for name, want := range map[string]int{"F": 0, "B": 1, "P": 2, "": -1, "f": -1, "M": -1, "TON": -1, "A": -1} {
		if got := first(layout.Pou(p, name)); got != want {
			t.Error(name, got)
		}
	}
	p.Pous = append(p.Pous, api.Pou{Name: "B"}, api.Pou{})
	if n, is := layout.Pou(p, "B"); n != 1 || !is {
		t.Error(n, is)
	}
	if n, is := layout.Pou(p, ""); n != 4 || !is {
		t.Error(n, is)
	}
	if n, is := layout.Pou(api.Project{}, "B"); n != 0 || is {
		t.Error(n, is)
	}
}

// P14.2: every class and every kind of type.
func TestSizes(t *testing.T) {
	types := "TYPE level : INT (5..9); row : ARRAY [-2..2] OF level; timer : TON; timers : ARRAY [1..3] OF timer; own : b; END_TYPE FUNCTION_BLOCK b VAR x, y : INT; END_VAR END_FUNCTION_BLOCK FUNCTION_BLOCK empty END_FUNCTION_BLOCK "
	for vars, want := range map[string]int{
		"":                                               0,
		"VAR_INPUT x : BOOL; y : LREAL; END_VAR":         2,
		"VAR_OUTPUT x : STRING; END_VAR":                 1,
		"VAR_IN_OUT x : INT; y : level; END_VAR":         2,
		"VAR_EXTERNAL x : INT; y : row; END_VAR":         0,
		"VAR_TEMP x : row; y : INT; END_VAR":             6,
		"VAR x : row; END_VAR":                           5,
		"VAR x : ARRAY [0..255] OF INT; END_VAR":         256,
		"VAR x : TON; END_VAR":                           6,
		"VAR x : SR; y : CTUD; END_VAR":                  13,
		"VAR x : R_TRIG; y : F_TRIG; z : RS; END_VAR":    9,
		"VAR x : CTU; y : CTD; z : TP; w : TOF; END_VAR": 24,
		"VAR x : timer; END_VAR":                         6,
		"VAR x : b; y : own; END_VAR":                    4,
		"VAR x : empty; y : empty; END_VAR":              0,
		// A block's type has the block's cells, even if it says that it is an array.
		"VAR x : timers; END_VAR": 6,
	} {
		p := project(t, types+"PROGRAM p "+vars+" END_PROGRAM")
		if n, why := layout.Size(p, 2); n != want || why != api.OK {
			t.Errorf("%q: %d %v, not %d", vars, n, why, want)
		}
		asModel(t, p)
	}
	// A function's result stands ahead, whatever its type is.
	for head, want := range map[string]int{"INT": 1, "level": 1, "STRING[5]": 1, "timer": 6, "own": 2} {
		p := project(t, types+"FUNCTION f : "+head+" VAR_INPUT a : INT; END_VAR VAR_IN_OUT b : INT; END_VAR VAR c : row; END_VAR VAR_TEMP d : row; END_VAR END_FUNCTION")
		if n, why := layout.Size(p, 2); n != want+12 || why != api.OK {
			t.Errorf("%q: %d %v, not %d", head, n, why, want)
		}
		if at, v, is := layout.Find(p, 2, "F"); at != 0 || !is || !reflect.DeepEqual(v, api.Var{Name: "F", Class: api.VarLocal, Type: p.Pous[2].Result}) {
			t.Errorf("%q: %d %+v", head, at, v)
		}
		if at, _, is := layout.Find(p, 2, "D"); at != want+7 || !is {
			t.Errorf("%q: %d", head, at)
		}
		asModel(t, p)
	}
}

// Numbers that are none.
func TestNumbers(t *testing.T) {
	p := project(t, laid)
	for _, n := range []int{-1, 3, -1 << 63, 1<<63 - 1} {
		size, why := layout.Size(p, n)
		at, v, is := layout.Find(p, n, "F")
		base, isBase := layout.Base(p, n)
		run, isRun := layout.Run(p, n)
		if size != 0 || why != api.ErrArg || at != 0 || is || !reflect.DeepEqual(v, api.Var{}) || base != 0 || isBase || run != 0 || isRun {
			t.Error(n, size, why, at, v, is, base, isBase, run, isRun)
		}
	}
	if run, is := layout.Run(p, 1); run != 0 || is {
		t.Error(run, is)
	}
	for _, n := range []int{1, 2} {
		if base, is := layout.Base(p, n); base != 0 || is {
			t.Error(n, base, is)
		}
	}
	for _, name := range []string{"", "x", "F", "G", "IN", "U.X"} {
		if at, v, is := layout.Find(p, 2, name); at != 0 || is || !reflect.DeepEqual(v, api.Var{}) {
			t.Error(name, at, v, is)
		}
		if at, v, is := layout.Global(p, name); name != "G" && (at != 0 || is || !reflect.DeepEqual(v, api.Var{})) {
			t.Error(name, at, v, is)
		}
	}
}

// blocksOf writes function blocks, each with variables of those of a text: "a:b c" is A with instances of B and C.
func blocksOf(text string) string {
	s := ""
	for _, line := range strings.Split(text, ";") {
		name, inner, _ := strings.Cut(strings.TrimSpace(line), ":")
		s += "FUNCTION_BLOCK " + name
		for i, x := range strings.Fields(inner) {
			s += " VAR x" + strconv.Itoa(i) + " : " + x + "; END_VAR"
		}
		s += " END_FUNCTION_BLOCK "
	}
	return s
}

// P14.2's errors, of each function block in order; of several the first.
func TestErrors(t *testing.T) {
	for text, want := range map[string]string{
		"a":                                "0",
		"a: a":                             "140",
		"a: b; b: a":                       "140 140",
		"a: b; b: c; c: a":                 "140 140 140",
		"a: b; b: c; c: b":                 "140 140 140",
		"a: b; b: c; c: c":                 "140 140 140",
		"a: b c; b; c: b":                  "0 0 0",
		"a: none":                          "141",
		"a: b; b: none":                    "141 141",
		"a: b; b: a none":                  "140 140",
		"a: none a":                        "141",
		"a: a none":                        "140",
		"a: b; b: none b":                  "140 141", // B holds itself: that is asked ahead of its own error
		"a: b; b: none c; c: c":            "141 141 140",
		"a: b; b: c none; c: c":            "140 140 140",
		"a: b; b: c; c: d none; d: none c": "140 140 140 141",
		"a: b c; b; c: d; d: c":            "140 0 140 140",
		"a: SR; b: a SR TON":               "0 0",
		"a: b; b: e; c: e; e: c":           "140 140 140 140",
	} {
		p := project(t, blocksOf(text))
		var l []string
		for i := range p.Pous {
			n, why := layout.Size(p, i)
			if why != api.OK && n != 0 {
				t.Error(text, n, why)
			}
			l = append(l, strconv.Itoa(int(why)))
			if why != api.OK {
				if at, v, is := layout.Find(p, i, "X0"); at != 0 || is || v.Name != "" {
					t.Error(text, at, v, is)
				}
			}
		}
		if got := strings.Join(l, " "); got != want {
			t.Errorf("%q: %s, not %s", text, got, want)
		}
		asModel(t, p)
	}
	// A function's and a program's name is no block's; nor is a type's that is none.
	p := project(t, "TYPE here : nothing; END_TYPE FUNCTION f : INT END_FUNCTION PROGRAM p END_PROGRAM PROGRAM q VAR x : f; END_VAR END_PROGRAM PROGRAM s VAR x : p; END_VAR END_PROGRAM PROGRAM u VAR x : u; END_VAR END_PROGRAM PROGRAM v VAR x : here; END_VAR END_PROGRAM FUNCTION g : here END_FUNCTION")
	for i := 2; i < len(p.Pous); i++ {
		if n, why := layout.Size(p, i); n != 0 || why != api.ErrBlock {
			t.Error(i, n, why)
		}
	}
}

// cells writes a variable of so many cells.
func cells(name string, n int) string {
	s := ""
	for i := 0; n > 0; i++ {
		s += name + strconv.Itoa(i) + " : ARRAY [1.." + strconv.Itoa(min(n, 256)) + "] OF BOOL; "
		n -= 256
	}
	return s
}

// MaxCells reached and passed, in POUs and in all.
func TestFull(t *testing.T) {
	program := func(n int, more string) string {
		return "PROGRAM p VAR " + cells("x", n) + more + "END_VAR END_PROGRAM "
	}
	config := func(globals int, runs ...string) string {
		s := "CONFIGURATION c VAR_GLOBAL " + cells("g", globals) + "END_VAR RESOURCE r ON x "
		for i, name := range runs {
			s += "PROGRAM m" + strconv.Itoa(i) + " : " + name + "; "
		}
		return s + "END_RESOURCE END_CONFIGURATION"
	}
	p := project(t, program(4096, ""))
	if n, why := layout.Size(p, 0); n != 4096 || why != api.OK {
		t.Error(n, why)
	}
	p = project(t, program(4096, "y : BOOL; "))
	if n, why := layout.Size(p, 0); n != 0 || why != api.ErrFull {
		t.Error(n, why)
	}
	if _, source, err := layout.Cells(p); source != 0 || err != error(api.Fault{At: 8, Why: api.ErrFull}) {
		t.Error(source, err)
	}
	// Variables' errors come ahead of their number; a block's number is its variable's error.
	for vars, want := range map[string]api.Errno{"y : nothing; ": api.ErrBlock, "y : r; ": api.ErrNest, "y : full; ": api.ErrFull, "y : BOOL; z : full; w : r; ": api.ErrFull, "y : empty; ": api.OK, "z : r; y : full; ": api.ErrNest} {
		p = project(t, program(4096, vars)+"FUNCTION_BLOCK r VAR x : r; END_VAR END_FUNCTION_BLOCK FUNCTION_BLOCK full VAR "+cells("x", 4097)+"END_VAR END_FUNCTION_BLOCK FUNCTION_BLOCK empty END_FUNCTION_BLOCK")
		if _, why := layout.Size(p, 0); why != want {
			t.Errorf("%q: %v, not %v", vars, why, want)
		}
	}
	function := "FUNCTION f : INT VAR " + cells("y", 95) + "END_VAR END_FUNCTION "
	for _, x := range []struct {
		globals, cells int
		is             bool
	}{{0, 2000, true}, {1000, 1500, true}, {1001, 1500, false}, {1000, 1501, false}, {4000, 0, true}, {4001, 0, false}} {
		p = project(t, function, program(x.cells, ""), config(x.globals, "p", "p"))
		l, source, err := layout.Cells(p)
		if x.is && (err != nil || source != 0 || len(l) != 96+x.globals+2*x.cells) {
			t.Error(x, len(l), source, err)
		}
		if !x.is && (err != error(api.Fault{Why: api.ErrFull}) || source != 2 || len(l) != 0) {
			t.Error(x, len(l), source, err)
		}
		// Where things lie is told nevertheless.
		if at, is := layout.Run(p, 1); !is || at != x.globals+96+x.cells {
			t.Error(x, at, is)
		}
		if at, is := layout.Base(p, 0); !is || at != x.globals {
			t.Error(x, at, is)
		}
	}
	// A run of no PROGRAM comes ahead of the number.
	p = project(t, function, program(3000, ""), config(0, "p", "p", "f"))
	if _, source, err := layout.Cells(p); source != 2 || !errors.Is(err, api.ErrUnknown) {
		t.Error(source, err)
	}
	// Great numbers within one another.
	p = project(t, blocksOf("a: b b b b; b: c c c c; c: d d d d; d: e e e e; e: g g g g; g: h h h h; h: ")+"PROGRAM p VAR x : a; END_VAR END_PROGRAM ")
	p.Pous[6].Vars = []api.Var{{Name: "Y", Class: api.VarLocal, Type: api.Type{Kind: api.KBool}}}
	if n, why := layout.Size(p, 0); n != 4096 || why != api.OK {
		t.Error(n, why)
	}
	asModel(t, p)
	p.Pous[6].Vars = append(p.Pous[6].Vars, api.Var{Name: "Z", Class: api.VarLocal, Type: api.Type{Kind: api.KBool}})
	if n, why := layout.Size(p, 0); n != 0 || why != api.ErrFull {
		t.Error(n, why)
	}
	asModel(t, p)
}

// P14.5: where a fault is told, and in which source; of several the first. The sign ¦ is at its place, and no part of the text.
func TestFaults(t *testing.T) {
	for _, x := range []struct {
		why     api.Errno
		sources []string
	}{
		{api.ErrBlock, []string{"PROGRAM p VAR a : INT; ¦x : nothing; END_VAR END_PROGRAM"}},
		{api.ErrBlock, []string{"", "FUNCTION f : INT END_FUNCTION", "FUNCTION_BLOCK b VAR ¦x : nothing; END_VAR END_FUNCTION_BLOCK PROGRAM p VAR x : b; END_VAR END_PROGRAM"}},
		// Through a block: at the POU's own variable.
		{api.ErrBlock, []string{"PROGRAM p VAR a : TON; ¦x : b; y : nothing; END_VAR END_PROGRAM", "FUNCTION_BLOCK b VAR z : c; END_VAR END_FUNCTION_BLOCK FUNCTION_BLOCK c VAR x : nothing; END_VAR END_FUNCTION_BLOCK"}},
		{api.ErrNest, []string{" ", "FUNCTION_BLOCK ¦b VAR x : b; END_VAR END_FUNCTION_BLOCK"}},
		{api.ErrNest, []string{"PROGRAM ¦p VAR a : INT; x : b; END_VAR END_PROGRAM FUNCTION_BLOCK b VAR x : b; END_VAR END_FUNCTION_BLOCK"}},
		{api.ErrFull, []string{"PROGRAM ¦p VAR x : b; y : nothing; END_VAR END_PROGRAM FUNCTION_BLOCK b VAR " + cells("x", 5000) + "END_VAR END_FUNCTION_BLOCK"}},
		{api.ErrFull, []string{"FUNCTION ¦f : INT VAR " + cells("x", 4096) + "END_VAR END_FUNCTION PROGRAM p VAR x : nothing; END_VAR END_PROGRAM"}},
		// POU by POU, whether it is run or not; then run by run.
		{api.ErrNest, []string{"FUNCTION_BLOCK ok END_FUNCTION_BLOCK FUNCTION_BLOCK ¦b VAR x : b; END_VAR END_FUNCTION_BLOCK", "PROGRAM p VAR x : nothing; END_VAR END_PROGRAM CONFIGURATION c RESOURCE r ON x PROGRAM m : none; END_RESOURCE END_CONFIGURATION"}},
		{api.ErrUnknown, []string{"FUNCTION_BLOCK b END_FUNCTION_BLOCK PROGRAM p END_PROGRAM", "CONFIGURATION c RESOURCE r ON x PROGRAM p : p; PROGRAM ¦m : b; PROGRAM n : none; END_RESOURCE END_CONFIGURATION"}},
		{api.ErrUnknown, []string{"CONFIGURATION c RESOURCE r ON x PROGRAM ¦m : m; END_RESOURCE END_CONFIGURATION", "FUNCTION f : INT END_FUNCTION"}},
		{api.ErrUnknown, []string{"CONFIGURATION c RESOURCE r ON x PROGRAM ¦m : TON; END_RESOURCE END_CONFIGURATION"}},
	} {
		var sources []string
		source, at := -1, -1
		for i, s := range x.sources {
			if n := strings.Index(s, "¦"); n >= 0 {
				source, at = i, n
			}
			sources = append(sources, strings.Replace(s, "¦", "", 1))
		}
		p := project(t, sources...)
		l, got, err := layout.Cells(p)
		if want := (api.Fault{At: at, Why: x.why}); err != error(want) || !errors.Is(err, x.why) || got != source || len(l) != 0 {
			t.Errorf("%.200q: %d %v, not %d %v", sources, got, err, source, want)
		}
		asModel(t, p)
	}
	// A result has no place of its own.
	p := project(t, "TYPE here : nothing; END_TYPE FUNCTION f : here END_FUNCTION")
	if _, source, err := layout.Cells(p); source != 0 || err != error(api.Fault{Why: api.ErrBlock}) {
		t.Error(source, err)
	}
}

// P14.4: what stands ahead, and what must have a size.
func TestPlaces(t *testing.T) {
	good := "FUNCTION f : INT VAR x, y : INT; END_VAR END_FUNCTION PROGRAM p VAR x : INT; END_VAR END_PROGRAM FUNCTION g : BOOL END_FUNCTION FUNCTION_BLOCK b END_FUNCTION_BLOCK PROGRAM q VAR a, b : INT; END_VAR END_PROGRAM "
	config := "CONFIGURATION c VAR_GLOBAL a : BOOL; b : ARRAY [1..4] OF INT; END_VAR RESOURCE r ON x VAR_GLOBAL d : INT; END_VAR PROGRAM m : p; PROGRAM n : q; PROGRAM o : %s; PROGRAM s : p; END_RESOURCE END_CONFIGURATION"
	told := func(p api.Project) string {
		s := ""
		for i := range p.Pous {
			s += strconv.Itoa(first(layout.Base(p, i))) + " "
		}
		for i := range p.Runs {
			s += " " + strconv.Itoa(first(layout.Run(p, i)))
		}
		return s
	}
	for _, x := range []struct{ more, run, want string }{
		{"", "p", "6 -1 9 -1 -1  10 11 13 14"},
		{"", "q", "6 -1 9 -1 -1  10 11 13 15"},
		// One that is of no PROGRAM, and those behind it.
		{"", "b", "6 -1 9 -1 -1  10 11 -1 -1"},
		{"", "none", "6 -1 9 -1 -1  10 11 -1 -1"},
		{"", "f", "6 -1 9 -1 -1  10 11 -1 -1"},
		// A program or block with an error plays no part, unless it is run.
		{"PROGRAM w VAR x : none; END_VAR END_PROGRAM ", "p", "6 -1 9 -1 -1 -1  10 11 13 14"},
		{"FUNCTION_BLOCK w VAR x : w; END_VAR END_FUNCTION_BLOCK ", "p", "6 -1 9 -1 -1 -1  10 11 13 14"},
		{"PROGRAM w VAR x : none; END_VAR END_PROGRAM ", "w", "6 -1 9 -1 -1 -1  10 11 -1 -1"},
		// A function with an error leaves nothing behind it, wherever it stands.
		{"FUNCTION w : INT VAR " + cells("x", 5000) + "END_VAR END_FUNCTION ", "p", "-1 -1 -1 -1 -1 -1  -1 -1 -1 -1"},
	} {
		p := project(t, good+x.more, fmt.Sprintf(config, x.run))
		if got := told(p); got != x.want {
			t.Errorf("%.80q %q: %s, not %s", x.more, x.run, got, x.want)
		}
		for name, want := range map[string]int{"A": 0, "B": 1, "D": 5, "E": -1} {
			at, _, is := layout.Global(p, name)
			if first(at, is) != want {
				t.Error(name, at, is)
			}
		}
		asModel(t, p)
	}
	// A global's name that stands twice.
	p := api.Project{Globals: []api.Var{{Name: "A", Type: api.Type{Kind: api.KInt}}, {Name: "B", Type: api.Type{Kind: api.KBool}}, {Name: "B", Type: api.Type{Kind: api.KInt}}}}
	if at, v, is := layout.Global(p, "B"); at != 1 || v.Type.Kind != api.KBool || !is {
		t.Error(at, v, is)
	}
}

// shownCells is cells as texts: kind, bounds, the most bytes, the initial value, what is kept, direction and address.
func shownCells(t *testing.T, p api.Project) []string {
	t.Helper()
	l, _, err := layout.Cells(p)
	if err != nil {
		t.Fatal(err)
	}
	var texts []string
	for _, c := range l {
		s := value.Word(c.Kind) + " " + value.Print(c.Init)
		if c.Kind == api.KRef {
			s = fmt.Sprintf("REF %d %d%s", c.Init.Kind, c.Init.Bits, c.Init.Text)
		} else if c.Init.Kind != c.Kind {
			s += "?"
		}
		if c.Sub || c.Lo != 0 || c.Hi != 0 {
			s += fmt.Sprintf(" %v%d..%d", c.Sub, c.Lo, c.Hi)
		}
		if c.Max != 0 {
			s += fmt.Sprint(" max", c.Max)
		}
		if c.Keep {
			s += " kept"
		}
		if c.Dir != 0 || c.Addr != "" {
			s += fmt.Sprint(" ", c.Dir, c.Addr)
		}
		texts = append(texts, s)
	}
	return texts
}

// Each sort of cell: kinds, bounds, initial values, addresses.
func TestCells(t *testing.T) {
	types := "TYPE level : INT (5..9); low : SINT (-9..-5); around : DINT (-3..3); edge : INT (0..4); under : INT (-4..0); big : ULINT (7..9223372036854775807); colour : (red, green); END_TYPE "
	for vars, want := range map[string]string{
		"a : BOOL; b : INT; c : LREAL; d : STRING; e : TIME; f : LWORD; g : DT":                    "BOOL FALSE, INT 0, LREAL 16#0000000000000000, STRING , TIME 0, LWORD 16#0, DT 0",
		"a : BOOL := TRUE; b : INT := -7; c : LREAL := -0.0; d : STRING := 'x'; e : TIME := T#5ns": "BOOL TRUE, INT -7, LREAL 16#8000000000000000, STRING x, TIME 5",
		"a : STRING[5]; b : STRING[7] := 'abc'":                                                    "STRING  max5, STRING abc max7",
		"a : level; b : low; c : around; d : edge; e : under; f : big":                             "INT 5 true5..9, SINT -9 true-9..-5, DINT 0 true-3..3, INT 0 true0..4, INT 0 true-4..0, ULINT 7 true7..9223372036854775807",
		"a : level := 9; b : low := -5; c : around := 3; d : big := 8":                             "INT 9 true5..9, SINT -5 true-9..-5, DINT 3 true-3..3, ULINT 8 true7..9223372036854775807",
		"a : colour; b : colour := green; c : INT := green":                                        "INT 0 true0..1, INT 1 true0..1, INT 1",
		"a : ARRAY [1..3] OF INT; b : ARRAY [-1..1] OF INT := [4, 5]":                              "INT 0, INT 0, INT 0, INT 4, INT 5, INT 0",
		"a : ARRAY [7..9] OF level := [6]; b : ARRAY [0..1] OF STRING[3] := ['a', 'b']":            "INT 6 true5..9, INT 5 true5..9, INT 5 true5..9, STRING a max3, STRING b max3",
		"a, b : INT := 5": "INT 5, INT 5",
	} {
		global := project(t, types, "CONFIGURATION c VAR_GLOBAL "+vars+"; END_VAR RESOURCE r ON x END_RESOURCE END_CONFIGURATION")
		if got := strings.Join(shownCells(t, global), ", "); got != want {
			t.Errorf("%q: %s, not %s", vars, got, want)
		}
		// The same in a program, and twice that.
		p := project(t, types, "PROGRAM p VAR "+vars+"; END_VAR END_PROGRAM CONFIGURATION c RESOURCE r ON x PROGRAM m : p; PROGRAM n : p; END_RESOURCE END_CONFIGURATION")
		if got := strings.Join(shownCells(t, p), ", "); got != want+", "+want {
			t.Errorf("%q: %s, not %s", vars, got, want)
		}
		// And in a function, behind its result.
		f := project(t, types, "FUNCTION fun : level VAR "+vars+"; END_VAR END_FUNCTION")
		if got := strings.Join(shownCells(t, f), ", "); got != "INT 5 true5..9, "+want {
			t.Errorf("%q: %s, not %s", vars, got, want)
		}
	}
	p := project(t, "CONFIGURATION c VAR_GLOBAL a AT %IX0.1 : BOOL; b AT %QW3 : INT := 7; c AT %ML12 : LINT; d : BOOL; END_VAR VAR_GLOBAL RETAIN e AT %QB9 : BYTE; f : INT; END_VAR VAR_GLOBAL CONSTANT g : INT := 3; END_VAR RESOURCE r ON x END_RESOURCE END_CONFIGURATION")
	if got := strings.Join(shownCells(t, p), ", "); got != "BOOL FALSE 1%IX0.1, INT 7 2%QW3, LINT 0 0%ML12, BOOL FALSE, BYTE 16#0 kept 2%QB9, INT 0 kept, INT 3" {
		t.Error(got)
	}
}

// What is kept: a variable's own, and all within it; never a function's, a VAR_TEMP, a VAR_IN_OUT.
func TestKept(t *testing.T) {
	inner := "FUNCTION_BLOCK b VAR_INPUT a : BOOL; END_VAR VAR_INPUT RETAIN c : BOOL; END_VAR VAR_IN_OUT d : BOOL; END_VAR VAR_TEMP e : BOOL; END_VAR VAR_EXTERNAL x : INT; END_VAR VAR t : SR; END_VAR VAR RETAIN u : R_TRIG; END_VAR VAR_OUTPUT RETAIN f : BOOL; END_VAR END_FUNCTION_BLOCK "
	config := "CONFIGURATION c VAR_GLOBAL x : INT; END_VAR RESOURCE r ON x PROGRAM m : p; END_RESOURCE END_CONFIGURATION"
	kept := func(src string) string {
		s := ""
		for _, c := range shownCells(t, project(t, inner+src+config))[1:] {
			switch {
			case c == "REF 20 0":
				s += "r"
			case strings.HasSuffix(c, " kept"):
				s += "k"
			default:
				s += "-"
			}
		}
		return s
	}
	for src, want := range map[string]string{
		"PROGRAM p VAR x : b; END_VAR END_PROGRAM ":        "-kr----kkkk",
		"PROGRAM p VAR RETAIN x : b; END_VAR END_PROGRAM ": "kkr-kkkkkkk",
		"PROGRAM p VAR RETAIN x : o; END_VAR VAR y : o; END_VAR END_PROGRAM FUNCTION_BLOCK o VAR x : b; END_VAR VAR RETAIN y : b; END_VAR VAR_TEMP z : INT; END_VAR END_FUNCTION_BLOCK ": "kkr-kkkkkkk" + "kkr-kkkkkkk" + "-" + "-kr----kkkk" + "kkr-kkkkkkk" + "-",
		"PROGRAM p VAR_INPUT RETAIN a : INT; END_VAR VAR_OUTPUT b : INT; END_VAR VAR_TEMP c : ARRAY [1..2] OF INT; END_VAR VAR RETAIN d : ARRAY [1..2] OF INT; END_VAR END_PROGRAM ":     "k---kk",
		"PROGRAM p END_PROGRAM FUNCTION f : INT VAR_IN_OUT a : INT; END_VAR VAR b : INT; END_VAR END_FUNCTION ":                                                                          "-r-",
		"TYPE t : b; END_TYPE PROGRAM p END_PROGRAM FUNCTION f : t END_FUNCTION ":                                                                                                        "--r--------",
	} {
		if got := kept(src); got != want {
			t.Errorf("%q: %s, not %s", src, got, want)
		}
	}
	// Of a function's frame nothing is kept, whatever its variables say; of a VAR_TEMP neither.
	p := project(t, "FUNCTION f : INT END_FUNCTION PROGRAM p END_PROGRAM CONFIGURATION c RESOURCE r ON x PROGRAM m : p; END_RESOURCE END_CONFIGURATION")
	for i, class := range []int{api.VarLocal, api.VarTemp} {
		p.Pous[i].Vars = []api.Var{{Name: "_A", Class: class, Type: api.Type{Block: "SR"}, Keep: true}, {Name: "_B", Class: class, Type: api.Type{Kind: api.KBool}, Keep: true}}
	}
	for _, c := range shownCells(t, p) {
		if strings.Contains(c, "kept") {
			t.Error(c)
		}
	}
}

// Standard blocks: their variables' kinds alone, and their own initial values.
func TestStandardBlocks(t *testing.T) {
	p := project(t, "PROGRAM p VAR a : F_TRIG; b : TON; c : CTU; END_VAR END_PROGRAM CONFIGURATION c RESOURCE r ON x PROGRAM m : p; END_RESOURCE END_CONFIGURATION")
	if got := strings.Join(shownCells(t, p), ", "); got != "BOOL FALSE, BOOL FALSE, BOOL TRUE, BOOL FALSE, TIME 0, BOOL FALSE, TIME 0, BOOL FALSE, TIME 0, BOOL FALSE, BOOL FALSE, INT 0, BOOL FALSE, INT 0, BOOL FALSE" {
		t.Error(got)
	}
}

// A standard block's name is that block's, whoever else has it by hand; of function blocks of one name the first one counts.
func TestNamesByHand(t *testing.T) {
	p := project(t, "PROGRAM p VAR a : TON; b : b; END_VAR END_PROGRAM FUNCTION_BLOCK b VAR x : INT; END_VAR END_FUNCTION_BLOCK")
	p.Pous = append(p.Pous, api.Pou{What: api.PouBlock, Name: "TON"}, api.Pou{What: api.PouBlock, Name: "B"})
	if n, why := layout.Size(p, 0); n != 7 || why != api.OK {
		t.Error(n, why)
	}
}

// Projects without POUs, globals or runs.
func TestNothing(t *testing.T) {
	for _, src := range []string{"", laid[:strings.Index(laid, "CONFIGURATION")], "CONFIGURATION c VAR_GLOBAL g : INT; END_VAR RESOURCE r ON x END_RESOURCE END_CONFIGURATION", "PROGRAM p END_PROGRAM CONFIGURATION c RESOURCE r ON x PROGRAM m : p; END_RESOURCE END_CONFIGURATION"} {
		if !asModel(t, project(t, src)) {
			t.Error(src)
		}
	}
	if l, source, err := layout.Cells(api.Project{}); len(l) != 0 || source != 0 || err != nil {
		t.Error(l, source, err)
	}
	if l := shownCells(t, project(t, laid[:strings.Index(laid, "CONFIGURATION")])); len(l) != 2 {
		t.Error(l)
	}
}

// Hidden variables stand behind a POU's own, of every language's kinds.
func TestHidden(t *testing.T) {
	p := project(t, laid)
	p.Pous[2].Vars = append(p.Pous[2].Vars, api.Var{Name: "_X1", Class: api.VarLocal, Type: api.Type{Kind: api.KBool}, Init: []api.Value{value.Bool(true)}}, api.Var{Name: "_D1", Class: api.VarLocal, Type: api.Type{Block: "TON"}}, api.Var{Name: "_N1", Class: api.VarTemp, Type: api.Type{Kind: api.KString}})
	for name, want := range map[string]int{"U": 0, "N": 14, "_X1": 17, "_D1": 18, "_N1": 24} {
		if at, v, is := layout.Find(p, 2, name); at != want || v.Name != name || !is {
			t.Error(name, at, v, is)
		}
	}
	if l := shownCells(t, p); strings.Join(l[3+17:], ", ") != "BOOL TRUE, BOOL FALSE, TIME 0, BOOL FALSE, TIME 0, BOOL FALSE, TIME 0, STRING " {
		t.Error(l)
	}
	asModel(t, p)
}
