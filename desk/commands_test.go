package desk_test

import (
	"slices"
	"strings"
	"testing"

	"relay/api"
	"relay/desk"
)

// The chapter's examples.
func TestExamples(t *testing.T) {
	script := blinks + running + tick0 + "outputs"
	want := []string{"source 1", "source 2", "image 1 1 1", "loaded", "running", "ran T", "out %QX0.0=TRUE"}
	if l := run(t, script); !slices.Equal(l, want) {
		t.Error(l)
	}
	ends(t, "load", 1, api.ErrThing)
	ends(t, "tick", 1, api.ErrCommand)
}

// P25.1: start, stop, cold and warm answer the mode they lead to, or the call's error.
func TestModes(t *testing.T) {
	at := divides + running
	says(t, at, "loaded", "running")
	says(t, at+"start", "error 230")
	says(t, at+"stop", "stopped")
	says(t, at+"stop\nstop", "stopped", "error 230")
	says(t, at+"stop\nstart", "stopped", "running")
	says(t, at+"cold\nwarm", "error 230", "error 230")
	says(t, at+"stop\ncold\nwarm", "stopped", "stopped", "stopped")
	says(t, divides+loaded+"stop\ncold\nwarm\nstart", "error 230", "stopped", "stopped", "running")
	failed := at + "set %IW1 0\n" + tick0
	says(t, failed, "failed 2 SLOW")
	says(t, failed+"start\nstop", "error 230", "error 230")
	says(t, failed+"warm\nstart", "stopped", "running")
	says(t, failed+"cold\nstart", "stopped", "running")
}

// P25.1: behind an error of a call all is as it was.
func TestErrorsOfCalls(t *testing.T) {
	errors := 0
	for _, state := range []string{loaded, running, running + tick10, running + "set %IW1 0\n" + tick0, running + tick10 + "stop\n", running + tick10 + "stop\nwarm\n"} {
		state = divides + state
		rest := "outputs\ncell 0\ncell 1\ncell 2\ncell 4\nmean\n" + tick10 + "outputs\nmean\nstart\n" + tick20 + "outputs\nmean\n"
		want, answer := run(t, state+rest), len(run(t, state))
		for _, line := range []string{"start\n", "stop\n", "cold\n", "warm\n", "tick -1\n", "tick 1099511627777\n", "set %IW1 32768\n", "set %IX0.0 yes\n", "cell -1\n", "cell 5\n"} {
			got := run(t, state+line+rest)
			if !strings.HasPrefix(got[answer], "error ") {
				continue
			}
			errors++
			if got = slices.Delete(got, answer, answer+1); !slices.Equal(got, want) {
				t.Errorf("%q %q: %q, not %q", state, line, got, want)
			}
		}
	}
	// Six of all of them, and of the modes' calls, state by state, 1, 3, 3, 2, 1, 1.
	if errors != 6*6+11 {
		t.Error(errors)
	}
}

// P25.1: a warm start keeps what is kept, a cold one nothing; the time goes on over both.
func TestWarmAndCold(t *testing.T) {
	at := divides + running + tick10 + tick10 + tick10 + "stop\n"
	says(t, at+"cell 4\ncell 2", "INT=3", "INT=3")
	says(t, at+"warm\ncell 4\ncell 2\noutputs", "INT=3", "INT=0", "out %QW1=0 %QW2=0")
	says(t, at+"cold\ncell 4\ncell 2", "INT=0", "INT=0")
	says(t, at+"warm\nstart\n"+tick0+"cell 4", "ran FAST", "INT=4")
	says(t, at+"cold\nstart\n"+tick0+"cell 4", "ran FAST", "INT=1")
}

// P25.1: tick answers the names of the tasks that ran, in order; none, if none did; or the fault and its task.
func TestTick(t *testing.T) {
	says(t, divides+loaded+tick0, "ran")
	says(t, divides+running+tick0, "ran FAST SLOW")
	says(t, divides+running+tick0+tick0, "ran FAST SLOW", "ran")
	says(t, divides+running+"tick 9999999\ntick 1\ntick 10000000", "ran FAST SLOW", "ran FAST", "ran FAST SLOW")
	says(t, divides+running+"set %IW1 0\n"+tick10+tick10, "failed 2 SLOW", "ran")
	says(t, divides+running+tick0+"set %IW1 0\n"+tick10+tick10, "ran FAST", "failed 2 SLOW")
	says(t, divides+running+"tick 1099511627776", "ran FAST SLOW")
	says(t, divides+running+"tick 1099511627777\ntick -1\ntick 999999999999999\ntick -999999999999999", "error 231", "error 231", "error 231", "error 231")
}

// P25.1: outputs answers all outputs, in order, as they were committed.
func TestOutputs(t *testing.T) {
	says(t, divides+loaded+"outputs", "out %QW1=0 %QW2=0")
	says(t, divides+running+"set %IW1 -7\n"+tick0+"outputs", "out %QW1=1 %QW2=-14")
	says(t, divides+running+"set %IW1 0\n"+tick0+"outputs", "failed 2 SLOW", "out %QW1=1 %QW2=0")
	says(t, "source CONFIGURATION c RESOURCE r ON plc END_RESOURCE END_CONFIGURATION\n"+running+"outputs\n"+tick0, "image 0 0 0", "loaded", "running", "out", "ran")
	says(t, "source CONFIGURATION c RESOURCE r ON plc VAR_GLOBAL a AT %QB1 : SINT := -128; b AT %QW1 : WORD := 16#FF; c AT %QL0 : ULINT := 18446744073709551615; d AT %QX1.7 : BOOL := TRUE; e AT %QD1 : DWORD; END_VAR END_RESOURCE END_CONFIGURATION\n"+loaded+"outputs",
		"out %QB1=-128 %QW1=16#FF %QL0=18446744073709551615 %QX1.7=TRUE %QD1=16#0")
}

// everyKind is sources of cells of all kinds.
const everyKind = "source PROGRAM p VAR a : BOOL := TRUE; b : SINT := -1; c : INT := 2; d : DINT := -3; e : LINT := 4; f : USINT := 255; g : UINT := 6; h : UDINT := 7; i : ULINT := 18446744073709551615; " +
	"j : BYTE := 16#AB; k : WORD := 1; l : DWORD := 16; m : LWORD; n : TIME := T#1s; o : DATE := D#1970-01-02; p : TOD := TOD#00:00:01; q : DT := DT#1970-01-01-00:00:02; r : LREAL := 0.5; s : STRING := 'it is'; t : STRING; END_VAR END_PROGRAM " +
	"CONFIGURATION c RESOURCE r ON plc PROGRAM q : p; END_RESOURCE END_CONFIGURATION\n"

// P25.1: cell answers a cell's kind and value. P25.2: error 1, if there is no such cell.
func TestCell(t *testing.T) {
	want := []string{"BOOL=TRUE", "SINT=-1", "INT=2", "DINT=-3", "LINT=4", "USINT=255", "UINT=6", "UDINT=7", "ULINT=18446744073709551615",
		"BYTE=16#AB", "WORD=16#1", "DWORD=16#10", "LWORD=16#0", "TIME=1000000000", "DATE=86400000000000", "TOD=1000000000", "DT=2000000000", "LREAL=16#3FE0000000000000", "STRING=it is", "STRING="}
	script := everyKind + loaded
	for i := range want {
		script += "cell " + digits(i) + "\n"
	}
	says(t, script, want...)
	says(t, everyKind+loaded+"cell -1\ncell 20\ncell 999999999999999\ncell -999999999999999\ncell 19", "error 1", "error 1", "error 1", "error 1", "STRING=")
	// A reference has no kind's word, and no text.
	says(t, "source FUNCTION_BLOCK f VAR_IN_OUT x : INT; END_VAR x := 1; END_FUNCTION_BLOCK PROGRAM p VAR n : INT; i : f; END_VAR i(x := n); END_PROGRAM CONFIGURATION c RESOURCE r ON plc PROGRAM q : p; END_RESOURCE END_CONFIGURATION\n"+loaded+"cell 0\ncell 1",
		"INT=0", "=")
	says(t, divides+running+"set %IW1 9\n"+tick0+"cell 0\ncell 1\ncell 2\ncell 3", "BOOL=FALSE", "INT=9", "INT=1", "INT=11")
}

// P25.1: load makes a further resource, that has stopped, at time 0, whatever became of the one ahead.
func TestLoad(t *testing.T) {
	at := divides + running + tick10 + "set %IW1 0\n" + tick10
	says(t, at, "failed 2 SLOW")
	says(t, at+"load\ncell 4\noutputs\nstop\n"+tick0+"start\n"+tick0, "loaded", "INT=0", "out %QW1=0 %QW2=0", "error 230", "ran", "running", "ran FAST SLOW")
	says(t, at+"load\nload", "loaded", "loaded")
	// The resource of an image stays what it is when sources are put.
	says(t, at+"source nonsense\ncell 4\nload\nstart\n"+tick0, "source 2", "INT=2", "loaded", "running", "ran FAST SLOW")
}

// Two runs know nothing of one another.
func TestNothingIsKept(t *testing.T) {
	run(t, blinks+running+tick0)
	for _, line := range []string{"load", "start", "stop", "cold", "warm", "set %IX0.0 TRUE", "tick 0", "outputs", "cell 0", "mean"} {
		ends(t, line, 1, api.ErrThing)
	}
	if l, err := desk.Run(""); len(l) > 0 || err != nil {
		t.Error(l, err)
	}
	says(t, "source a", "source 1")
}
