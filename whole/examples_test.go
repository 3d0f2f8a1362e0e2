package whole

import (
	"slices"
	"testing"

	"relay/api"
	"relay/plc"
	"relay/value"
)

// once is what comes of one activation of a program's variables and body, which begins with n := 1; its output is n.
func once(t *testing.T, types, body string) api.Report {
	t.Helper()
	x := newPlant(t, types+" PROGRAM p VAR_EXTERNAL n : INT; END_VAR "+body+" END_PROGRAM", config("n AT %QW0 : INT := 7; "))
	return x.played(t, make([]api.Entry, 1))[0]
}

// The examples 1 to 5 of the whole: faults commit nothing; what is no fault does.
func TestFaultsOfExamples(t *testing.T) {
	level := "TYPE level : INT (0..100); short : STRING[2]; END_TYPE"
	for _, x := range []struct {
		types, body string
		fault       int
		out         int
	}{
		{"", "VAR i : INT; END_VAR n := 1; i := INT#32767 + INT#1;", api.FaultOver, 7},
		{"", "n := INT#32766 + INT#1;", 0, 32767},
		{"", "VAR f : LREAL; END_VAR n := 1; f := LREAL#0.0 / LREAL#0.0; IF f = f THEN n := 2; ELSIF f <> f THEN n := 3; END_IF;", 0, 3},
		{"", "VAR f : LREAL; i : INT; END_VAR n := 1; f := LREAL#0.0 / LREAL#0.0; i := LREAL_TO_INT(f);", api.FaultConvert, 7},
		{level, "VAR l : level; i : INT := 101; END_VAR n := 1; l := i;", api.FaultRange, 7},
		{level, "VAR l : level; i : INT := 100; END_VAR l := i; n := l;", 0, 100},
		{level, "VAR s : short; u : STRING := 'abc'; END_VAR n := 1; s := u;", api.FaultText, 7},
		{"", "VAR a : ARRAY [1..4] OF INT; i : INT; END_VAR n := 1; n := a[i];", api.FaultIndex, 7},
		{"", "VAR a : ARRAY [1..4] OF INT; i : INT := 4; END_VAR n := a[i];", 0, 0},
		{"", "n := 1; {bound 3} WHILE TRUE DO n := n + 1; END_WHILE;", api.FaultLoop, 7},
		{"", "n := 1; {bound 3} WHILE n < 4 DO n := n + 1; END_WHILE;", 0, 4},
		{"", "VAR i : INT; END_VAR n := 1; i := 1 / i;", api.FaultZero, 7},
	} {
		got := once(t, x.types, x.body)
		want := api.Report{Ran: []string{"T"}, Outputs: []api.Input{{Addr: "%QW0", Value: number(api.KInt, x.out)}}, Mode: api.ModeRun, Over: []int{0}}
		if x.fault != 0 {
			want.Mode, want.Fault, want.In = api.ModeFault, x.fault, "T"
		}
		if !same(got, want) {
			t.Error(x.body, got, want)
		}
	}
}

// Example 8: a chart whose first step's transition is true fires at the first scan; the next step's actions run in that scan.
func TestChartOfExamples(t *testing.T) {
	got := once(t, "", "{SFC} INITIAL_STEP a: x(N); END_STEP STEP b: y(N); END_STEP TRANSITION FROM a TO b := TRUE; END_TRANSITION ACTION x: n := n + 1; END_ACTION ACTION y: n := n + 100; END_ACTION")
	if got.Outputs[0].Value != number(api.KInt, 107) {
		t.Error(got)
	}
}

// Example 9: two tasks of 10 ms, priorities 1 and 2, an entry of 10 ms: the first runs, then the second; whichever is declared first.
func TestTasksOfExamples(t *testing.T) {
	one, two := "TASK one (INTERVAL := T#10ms, PRIORITY := 1); ", "TASK two (INTERVAL := T#10ms, PRIORITY := 2); "
	for _, tasks := range []string{one + two, two + one} {
		x := newPlant(t, "PROGRAM p VAR_EXTERNAL n : INT; END_VAR n := n * 2; END_PROGRAM PROGRAM q VAR_EXTERNAL n : INT; END_VAR n := n + 1; END_PROGRAM",
			"CONFIGURATION c VAR_GLOBAL n AT %QW0 : INT; END_VAR RESOURCE r ON plc "+tasks+"PROGRAM a WITH two : q; PROGRAM b WITH one : p; END_RESOURCE END_CONFIGURATION")
		for i, l := range x.played(t, []api.Entry{{Advance: 1}, {Advance: tenMs - 1}, {Advance: tenMs}}) {
			if !slices.Equal(l.Ran, []string{"ONE", "TWO"}) || l.Outputs[0].Value != number(api.KInt, 1<<(i+1)-1) {
				t.Error(l)
			}
		}
	}
}

// Example 10: a source with an unknown name: one diagnostic at its place, and no image.
func TestUnknownOfExamples(t *testing.T) {
	m, faults := plc.Compile([]string{config(""), "PROGRAM p VAR a : INT; END_VAR a := x; END_PROGRAM"})
	if want := []api.Diag{{Source: 1, Fault: api.Fault{At: 36, Why: api.ErrUnknown}}}; !slices.Equal(faults, want) || m.Name != "" {
		t.Error(faults)
	}
}

// Timers go by the time of the resource, in machine and meaning alike.
func TestTimers(t *testing.T) {
	x := newPlant(t, "PROGRAM p VAR_EXTERNAL go, q : BOOL; END_VAR VAR t : TON; END_VAR t(IN := go, PT := T#30ms); q := t.Q; END_PROGRAM", config("go AT %IX0.0 : BOOL; q AT %QX0.0 : BOOL; "))
	yes, no := []api.Input{{Addr: "%IX0.0", Value: value.Bool(true)}}, []api.Input{{Addr: "%IX0.0", Value: value.Bool(false)}}
	script := []api.Entry{{}, {Advance: tenMs, Inputs: yes}, {Advance: tenMs}, {Advance: tenMs}, {Advance: tenMs}, {Advance: tenMs}, {Advance: tenMs, Inputs: no}, {Advance: tenMs, Inputs: yes}, {Advance: 3 * tenMs}, {Advance: 5, Inputs: no}}
	on := ""
	for _, l := range x.played(t, script) {
		on += value.Print(l.Outputs[0].Value)[:1]
	}
	if on != "FFFFTTFFTT" {
		t.Error(on)
	}
}
