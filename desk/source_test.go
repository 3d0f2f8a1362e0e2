package desk_test

import (
	"errors"
	"math/rand"
	"slices"
	"strconv"
	"strings"
	"testing"

	"relay/api"
	"relay/desk"
)

// blinks is sources of an image whose only task turns its output round each 10 ms.
const blinks = "source PROGRAM p VAR_EXTERNAL q : BOOL; END_VAR q := NOT q; END_PROGRAM\n" +
	"source CONFIGURATION c RESOURCE r ON plc VAR_GLOBAL q AT %QX0.0 : BOOL; END_VAR TASK t (INTERVAL := T#10ms, PRIORITY := 1); PROGRAM p1 WITH t : p; END_RESOURCE END_CONFIGURATION\n"

// divides is sources of an image with two inputs: tasks of 10 ms and 20 ms count, keep what they count, and tell 100 over the word, at 0 a fault.
const divides = "source PROGRAM counts VAR RETAIN n : INT; END_VAR VAR_EXTERNAL sum : INT; END_VAR n := n + 1; sum := n; END_PROGRAM PROGRAM over VAR_EXTERNAL w, part : INT; END_VAR part := 100 / w; END_PROGRAM^" +
	"CONFIGURATION c RESOURCE r ON plc VAR_GLOBAL x AT %IX0.0 : BOOL; w AT %IW1 : INT := 5; sum AT %QW1 : INT; part AT %QW2 : INT; END_VAR " +
	"TASK fast (INTERVAL := T#10ms, PRIORITY := 1); TASK slow (INTERVAL := T#20ms, PRIORITY := 2); PROGRAM a WITH fast : counts; PROGRAM b WITH slow : over; END_RESOURCE END_CONFIGURATION\n"

// loaded and running are what such sources are followed by.
const (
	loaded  = "compile\nload\n"
	running = loaded + "start\n"
)

// Ticks of spans.
const (
	tick0  = "tick 0\n"
	tick10 = "tick 10000000\n"
	tick20 = "tick 20000000\n"
)

// run is the answers of a script that comes to its end.
func run(t *testing.T, script string) []string {
	t.Helper()
	l, err := desk.Run(script)
	if err != nil {
		t.Fatalf("%.2000q: %v", script, err)
	}
	return l
}

// says checks what the last lines of a script answer.
func says(t *testing.T, script string, want ...string) {
	t.Helper()
	l := run(t, script)
	if len(l) < len(want) || !slices.Equal(l[len(l)-len(want):], want) {
		t.Errorf("%.2000q: %q, not %q", script, l, want)
	}
}

// ends checks that a script has an error at a line, and answers nothing.
func ends(t *testing.T, script string, line int, why api.Errno) {
	t.Helper()
	l, err := desk.Run(script)
	if err != (api.Fault{At: line, Why: why}) || !errors.Is(err, why) || len(l) > 0 {
		t.Errorf("%.300q: %q %v, not %v at %d", script, l, err, why, line)
	}
}

// oneLine is a source's text as a script has it.
func oneLine(text string) string { return strings.ReplaceAll(text, "\n", "^") }

// sourceLines is the commands that put sources.
func sourceLines(sources []string) string {
	var b strings.Builder
	for _, s := range sources {
		b.WriteString("source " + oneLine(s) + "\n")
	}
	return b.String()
}

func digits(n int) string { return strconv.Itoa(n) }

// pick is one of several things, by chance.
func pick[T any](r *rand.Rand, l ...T) T { return l[r.Intn(len(l))] }
