package plc_test

import (
	"reflect"
	"slices"
	"strconv"
	"strings"
	"testing"

	"relay/api"
	"relay/bound"
	"relay/image"
	"relay/layout"
	"relay/plc"
	"relay/value"
)

// P24.2: each field of an image: the chapter's first example, and one with something of everything.
func TestExample(t *testing.T) {
	m := compiled(t, "PROGRAM p VAR_EXTERNAL q : BOOL; END_VAR q := NOT q; END_PROGRAM", "CONFIGURATION c RESOURCE r ON plc VAR_GLOBAL q AT %QX0.0 : BOOL; END_VAR TASK t (INTERVAL := T#10ms, PRIORITY := 1); PROGRAM p1 WITH t : p; END_RESOURCE END_CONFIGURATION")
	want := api.Image{
		Name:  "R",
		Cells: []api.Cell{{Kind: api.KBool, Init: value.Bool(false), Dir: 2, Addr: "%QX0.0"}},
		Codes: []api.Flat{{Name: "P", What: api.PouProgram, Base: -1, Regs: api.MaxRegs, Ops: []api.Op{
			{Code: api.IrLoad, A: 0, B: api.AreaGlobal}, {Code: api.IrTurn, A: 1, B: 0, D: api.OpNot}, {Code: api.IrStore, A: 1, B: api.AreaGlobal}, {Code: api.IrReturn},
		}}},
		Jobs: []api.Job{{Name: "T", Interval: 10000000, Single: -1, Priority: 1, Codes: []int{0}, Bases: []int{1}, Bound: 4}},
	}
	if !image.Same(m, want) {
		t.Error(m)
	}
	l := played(t, m, []api.Entry{{}})
	if len(l) != 1 || !slices.Equal(l[0].Ran, []string{"T"}) || !slices.Equal(l[0].Outputs, []api.Input{{Addr: "%QX0.0", Value: value.Bool(true)}}) || l[0].Steps != 4 {
		t.Error(l)
	}
}

// several is sources with something of everything: two tasks and one without programs, instances of which one is never run.
func several() []string {
	return []string{
		"TYPE level : INT (5..9); END_TYPE FUNCTION f : INT VAR_INPUT a : INT; END_VAR f := a + 1; END_FUNCTION FUNCTION_BLOCK b VAR RETAIN n : INT := 3; END_VAR n := f(n); END_FUNCTION_BLOCK",
		"CONFIGURATION c VAR_GLOBAL g : INT; go AT %IX0.3 : BOOL; END_VAR RESOURCE main ON plc VAR_GLOBAL RETAIN s : STRING[7] := 'x'; w AT %QW2 : WORD := 16#FF; END_VAR " +
			"TASK slow (INTERVAL := T#1s, PRIORITY := 65535); TASK never (INTERVAL := T#1ns, PRIORITY := 2); TASK event (SINGLE := go, PRIORITY := 0); " +
			"PROGRAM one WITH slow : two; PROGRAM idle : two; PROGRAM three WITH event : other; PROGRAM four WITH slow : other; PROGRAM five WITH slow : two; END_RESOURCE END_CONFIGURATION",
		"PROGRAM two VAR l : level; i : b; t : TON; END_VAR i(); t(IN := TRUE, PT := T#1s); l := 7; END_PROGRAM PROGRAM other VAR_EXTERNAL w : WORD; END_VAR {LD} END_PROGRAM",
	}
}

// P24.2: cells, codes and tasks are those that the layers below tell, in their order.
func TestImage(t *testing.T) {
	m := compiled(t, several()...)
	p, codes, faults := plc.Front(several())
	if len(faults) > 0 || len(codes) != 4 {
		t.Fatal(faults)
	}
	cells, _, err := layout.Cells(p)
	if err != nil || m.Name != "MAIN" || !slices.Equal(m.Cells, cells) {
		t.Error(err, m.Name, m.Cells)
	}
	names := ""
	for i, f := range m.Codes {
		names += f.Name + " "
		if c := codes[i]; f.Name != c.Name || f.What != c.What || f.Cells != c.Cells || f.Base != c.Base || f.Regs != api.MaxRegs || f.Slots != 0 {
			t.Error(f, c)
		}
	}
	if names != "F B TWO OTHER " {
		t.Error(names)
	}
	// Globals 0 to 3, the frame of F 4 and 5, then TWO (8 cells), TWO, OTHER (none), OTHER, TWO
	of := func(code int) int {
		n, _, why := bound.Of(m.Codes, code)
		if why != api.OK {
			t.Fatal(why)
		}
		return n
	}
	want := []api.Job{
		{Name: "SLOW", Interval: 1000000000, Single: -1, Priority: 65535, Codes: []int{2, 3, 2}, Bases: []int{6, 22, 22}, Bound: of(2) + of(3) + of(2)},
		{Name: "NEVER", Interval: 1, Single: -1, Priority: 2},
		{Name: "EVENT", Single: 1, Codes: []int{3}, Bases: []int{22}, Bound: of(3)},
	}
	if !reflect.DeepEqual(emptied(m.Jobs), want) {
		t.Error(m.Jobs, want)
	}
	if of(3) != 1 || of(2) < 20 {
		t.Error(of(3), of(2))
	}
}

// A project needs no task, and no program.
func TestWithoutTasks(t *testing.T) {
	m := compiled(t, "CONFIGURATION c VAR_GLOBAL g AT %QB0 : BYTE := 7; END_VAR RESOURCE r ON plc END_RESOURCE END_CONFIGURATION")
	if len(m.Jobs) != 0 || len(m.Codes) != 0 || len(m.Cells) != 1 {
		t.Error(m)
	}
	l := played(t, m, []api.Entry{{Advance: 5}})
	if len(l) != 1 || len(l[0].Ran)+len(l[0].Over) != 0 || l[0].Outputs[0].Value.Bits != 7 || l[0].Mode != api.ModeRun {
		t.Error(l)
	}
	m = compiled(t, "PROGRAM p END_PROGRAM CONFIGURATION c RESOURCE r ON plc TASK t (INTERVAL := T#1s, PRIORITY := 1); PROGRAM q : p; END_RESOURCE END_CONFIGURATION")
	if len(m.Jobs) != 1 || len(m.Jobs[0].Codes)+len(m.Jobs[0].Bases)+m.Jobs[0].Bound != 0 || len(m.Codes) != 1 {
		t.Error(m)
	}
	if l := played(t, m, make([]api.Entry, 2)); len(l[0].Ran) != 1 || len(l[1].Ran) != 0 || l[0].Steps != 0 {
		t.Error(l)
	}
}

// loops is statements of so many instructions, by loops that are short to write; 11 each.
func loops(n int) string { return strings.Repeat("{BOUND 1}REPEAT UNTIL q END_REPEAT;", n) }

// P24.2: the first code that can't be made, at its POU.
func TestCodesAtFault(t *testing.T) {
	body := func(name, text string) string {
		return "PROGRAM " + name + " VAR q : BOOL; a : INT; END_VAR " + text + " END_PROGRAM "
	}
	most := (api.MaxCode - 1) / 11
	checkFaults(t, []string{plain, body("^r", loops(most+1)), config}, api.ErrSize)
	checkFaults(t, []string{plain + body("^r", loops(most+1)), body("s", loops(most+1)), config}, api.ErrSize)
	// Too many slots: arguments of calls within one another, which all wait
	f := "FUNCTION f : INT VAR_INPUT " + many(62, "p# : INT; ") + "END_VAR END_FUNCTION "
	call := strings.Repeat("f("+strings.Repeat("a,", 61), 20) + "a" + strings.Repeat(")", 20)
	checkFaults(t, []string{config, f + plain + body("^r", "a := "+call+";")}, api.ErrFull)
	// Too many instructions over few registers, though not ahead
	short := "a := " + strings.Repeat("f("+strings.Repeat("a,", 61), 15) + "a" + strings.Repeat(")", 15) + ";"
	checkFaults(t, []string{config, f + plain + body("^r", loops(1200)+short)}, api.ErrLong)
	compiled(t, config, f+plain+body("r", loops(1100)+short))
	// The first code, whatever comes first with it: each way round
	one, other := body("^r", "a := "+call+";"), body("^r", loops(most+1))
	second, third := strings.Replace(one, "^r", "s", 1), strings.Replace(other, "^r", "s", 1)
	for range 20 {
		checkFaults(t, []string{config, f + plain, one, third}, api.ErrFull)
		checkFaults(t, []string{config, f + plain, other, second}, api.ErrSize)
	}
	// A code that no task runs counts, too; a task's fault comes behind it.
	checkFaults(t, []string{nested("p", 1<<10, 1<<10), config, body("^r", loops(most+1))}, api.ErrSize)
}

// nested is a program with two loops within one another of so many rounds.
func nested(name string, outer, inner int) string {
	return "PROGRAM " + name + " VAR i, k, n : DINT; END_VAR FOR i := 1 TO " + strconv.Itoa(outer) + " DO FOR k := 1 TO " + strconv.Itoa(inner) + " DO n := n + 1; END_FOR; END_FOR; END_PROGRAM "
}

// chain is functions each of which calls the one ahead of it, and a program that calls the last one: one run more within one another than functions.
func chain(name string, functions int) string {
	text := "FUNCTION " + name + "0 : INT END_FUNCTION "
	for i := 1; i < functions; i++ {
		own := name + strconv.Itoa(i)
		text += "FUNCTION " + own + " : INT " + own + " := " + name + strconv.Itoa(i-1) + "(); END_FUNCTION "
	}
	return text + "PROGRAM " + name + " VAR n : INT; END_VAR n := " + name + strconv.Itoa(functions-1) + "(); END_PROGRAM "
}

// configOf is a configuration of tasks T0, T1, .., each of the programs of a text.
func configOf(tasks ...string) string {
	head, runs := "CONFIGURATION c RESOURCE r ON plc ", ""
	for i, programs := range tasks {
		mark := ""
		if strings.HasPrefix(programs, "^") {
			mark = "^"
		}
		task := "T" + strconv.Itoa(i)
		head += "TASK " + mark + task + " (INTERVAL := T#10ms, PRIORITY := 1); "
		for k, p := range strings.Fields(strings.TrimPrefix(programs, "^")) {
			runs += "PROGRAM r" + strconv.Itoa(i) + "_" + strconv.Itoa(k) + " WITH " + task + " : " + p + "; "
		}
	}
	return head + runs + "END_RESOURCE END_CONFIGURATION"
}

// P24.2: the first task whose bound is too great, or whose calls lie too deep in one another.
func TestTasksAtFault(t *testing.T) {
	great, half, deep, fit := nested("g", 1<<10, 1<<10), nested("h", 1<<8, 1<<7), chain("d", api.MaxCalls), chain("f", api.MaxCalls-1)
	all := great + half + deep + fit + plain
	m := compiled(t, all, configOf("f p", "h f", ""))
	if m.Jobs[1].Bound <= 1<<18 || m.Jobs[1].Bound > api.MaxBound {
		t.Error(m.Jobs)
	}
	checkFaults(t, []string{all, configOf("p", "^g")}, api.ErrGreat)
	checkFaults(t, []string{all, configOf("p f", "^p d")}, api.ErrGreat)
	checkFaults(t, []string{configOf("^h h h h"), all}, api.ErrGreat)
	compiled(t, all, configOf("h", "h", "h", "h"))
	// Task by task
	checkFaults(t, []string{all, "", configOf("^d", "g")}, api.ErrGreat)
	checkFaults(t, []string{all, "", configOf("^g", "d")}, api.ErrGreat)
	checkFaults(t, []string{all, "", configOf("f", "^d", "g")}, api.ErrGreat)
	checkFaults(t, []string{all, "", configOf("f", "^g", "d")}, api.ErrGreat)
	checkFaults(t, []string{all, "", configOf("f", "^d g", "p")}, api.ErrGreat)
	// What no task runs may be so.
	compiled(t, all, strings.Replace(configOf("f"), "END_RESOURCE", "PROGRAM x : g; PROGRAM y : d; END_RESOURCE", 1))
}

// P24.2: what image.Check says, at 0 of the configuration's source: more instructions than an image may have.
func TestImageAtFault(t *testing.T) {
	body := func(name string, n int) string {
		return "PROGRAM " + name + " VAR q : BOOL; END_VAR " + loops(n) + " END_PROGRAM "
	}
	half := api.MaxCode / 2 / 11
	compiled(t, plain+body("r", half), body("s", half-1), config)
	checkFaults(t, []string{plain + body("r", half), body("s", half), body("u", half), "^" + config}, api.ErrLong)
	// A task's fault comes ahead of it.
	checkFaults(t, []string{plain + body("r", half), body("s", half), body("u", half) + nested("g", 1<<10, 1<<10), configOf("^g")}, api.ErrGreat)
}
