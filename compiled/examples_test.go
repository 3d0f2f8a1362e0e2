package compiled

import (
	"math/rand"
	"strconv"
	"testing"

	"relay/api"
	"relay/value"
	"relay/vm"
)

// one is the plant of a program whose first variable is looked at, of what stands ahead of it, and of its variables and body.
func one(t *testing.T, ahead, body string) *plant {
	t.Helper()
	config := "CONFIGURATION c RESOURCE r ON plc TASK t (INTERVAL := T#10ms, PRIORITY := 1); PROGRAM q WITH t : p; END_RESOURCE END_CONFIGURATION"
	return newPlant(t, rand.New(rand.NewSource(1)), []string{ahead + " PROGRAM p " + body + " END_PROGRAM", config}, asIs)
}

// forms is the codes of a plant in all forms that the layers make of them.
func forms(t *testing.T, x *plant) [][]api.Flat {
	t.Helper()
	l := [][]api.Flat{x.flats, x.short}
	for regs := 4; regs <= api.MaxRegs; regs++ {
		l = append(l, few(t, x.flats, regs), few(t, x.short, regs))
	}
	return l
}

// P21.6: faults come where the trees have them, and cells are theirs: the first examples of the whole among others.
func TestFaultsOfSources(t *testing.T) {
	types := "TYPE level : INT (0..100); short : STRING[3]; END_TYPE "
	for _, x := range []struct {
		body  string
		first string
		fault int
	}{
		{"VAR a : INT := 4; END_VAR a := a + 1;", "5", 0},
		{"VAR a : INT := 32767; END_VAR a := a + 1;", "", api.FaultOver},
		{"VAR a, b : INT; END_VAR a := 1 / b;", "", api.FaultZero},
		{"VAR x : LREAL; END_VAR x := x / x;", "16#7FF8000000000001", 0},
		{"VAR is : BOOL; x : LREAL; END_VAR x := x / x; is := x = x;", "FALSE", 0},
		{"VAR i : INT; x : LREAL; END_VAR x := x / x; i := LREAL_TO_INT(x);", "", api.FaultConvert},
		{"VAR l : level; i : INT := 100; END_VAR l := i;", "100", 0},
		{"VAR l : level; i : INT := 101; END_VAR l := i;", "", api.FaultRange},
		{"VAR s : short; u : STRING := 'abc'; END_VAR s := u;", "abc", 0},
		{"VAR s : short; u : STRING := 'abcd'; END_VAR s := u;", "", api.FaultText},
		{"VAR n : INT; a : ARRAY [1..4] OF INT := [5, 6, 7, 8]; i : INT := 1; END_VAR n := a[i];", "5", 0},
		{"VAR n : INT; a : ARRAY [1..4] OF INT := [5, 6, 7, 8]; i : INT := 4; END_VAR n := a[i];", "8", 0},
		{"VAR n : INT; a : ARRAY [1..4] OF INT; i : INT; END_VAR n := a[i];", "", api.FaultIndex},
		{"VAR n : INT; a : ARRAY [1..4] OF INT; i : INT := 5; END_VAR a[i] := n;", "", api.FaultIndex},
		{"VAR n : INT; a : ARRAY [1..4] OF INT; i : INT := 5; END_VAR a[i] := 1 / n;", "", api.FaultZero},
		{"VAR n : INT; END_VAR {BOUND 3} WHILE n < 3 DO n := n + 1; END_WHILE;", "3", 0},
		{"VAR n : INT; END_VAR {BOUND 3} WHILE TRUE DO n := n + 1; END_WHILE;", "", api.FaultLoop},
		{"VAR n : INT; END_VAR {BOUND 3} REPEAT n := n + 1; UNTIL n = 3 END_REPEAT;", "3", 0},
		{"VAR n : INT; END_VAR {BOUND 3} REPEAT n := n + 1; UNTIL FALSE END_REPEAT;", "", api.FaultLoop},
		{"VAR n, i : INT; END_VAR FOR i := 1 TO 3 DO n := n + i; END_FOR;", "6", 0},
		{"VAR n, i : INT; END_VAR FOR i := 1 TO 3 DO n := n + i; IF i = 2 THEN EXIT; END_IF; END_FOR;", "3", 0},
	} {
		p := one(t, types, x.body)
		m := p.moment(p.l[0], 0, vm.Start(p.cells))
		first := ""
		if len(m.after) > 0 {
			first = value.Print(m.after[p.l[0].base])
		}
		if m.fault != x.fault || first != x.first {
			t.Error(x.body, m.fault, first)
		}
		for _, codes := range forms(t, p) {
			p.steps(t, codes, m)
		}
	}
}

// MaxCalls runs lie within one another, and no more, in the meaning and in the machine alike.
func TestCallsWithinCalls(t *testing.T) {
	for functions := api.MaxCalls - 2; functions <= api.MaxCalls; functions++ {
		ahead := "FUNCTION f0 : INT VAR_INPUT a : INT; END_VAR f0 := a + 1; END_FUNCTION "
		for i := 1; i < functions; i++ {
			name := "f" + strconv.Itoa(i)
			ahead += "FUNCTION " + name + " : INT VAR_INPUT a : INT; END_VAR " + name + " := f" + strconv.Itoa(i-1) + "(a + 1); END_FUNCTION "
		}
		p := one(t, ahead, "VAR n : INT; END_VAR n := f"+strconv.Itoa(functions-1)+"(n);")
		run := p.l[len(p.l)-1]
		m := p.moment(run, 0, vm.Start(p.cells))
		for _, codes := range forms(t, p) {
			after, _, fault := p.run(codes, run.pou, m, unbounded)
			switch {
			case functions < api.MaxCalls && (m.fault != 0 || fault != 0 || after[run.base].Bits != uint64(functions)):
				t.Error(functions, m.fault, fault, after)
			case functions == api.MaxCalls && (m.fault != api.FaultSteps || fault != api.FaultSteps):
				t.Error(functions, m.fault, fault)
			}
		}
	}
}

// What loops of sources cost at most: chapter 22's example, and those of each kind.
func TestBoundsOfSources(t *testing.T) {
	for body, want := range map[string]int{
		"": 1, "a := a + 1;": 5, "RETURN;": 1,
		"FOR i := 1 TO 3 DO a := a + 1; END_FOR;":            1 + 4*17 + 1,
		"FOR i := 1 TO 3 DO ; END_FOR;":                      1 + 4*13 + 1,
		"FOR i := 3 TO 1 DO ; END_FOR;":                      1 + 1*13 + 1,
		"{BOUND 3} WHILE a > 0 DO ; END_WHILE;":              1 + 4*11 + 1,
		"{BOUND 3} REPEAT UNTIL a > 0 END_REPEAT;":           1 + 4*11 + 1,
		"IF a > 0 THEN RETURN; ELSE a := 1; a := 2; END_IF;": 4 + 4 + 1,
	} {
		p := one(t, "", "VAR a, i : INT; END_VAR "+body)
		if got := most(t, p.flats, 0); got != want {
			t.Error(body, got, want)
		}
	}
	for n := range 40 {
		p := one(t, "", "VAR a, i : INT; END_VAR FOR i := 1 TO "+strconv.Itoa(n)+" DO a := a + 1; END_FOR;")
		if got := most(t, p.flats, 0); got != 1+(n+1)*17+1 {
			t.Error(n, got)
		}
	}
}
