package watch_test

import (
	"slices"
	"testing"

	"relay/api"
)

// The chapter's first example, and P26.3: an input of a forced cell is that cell's value in the activations and behind them.
func TestForcedInputs(t *testing.T) {
	p := started(t, task("A", 10, 1, sendsIn, sendsWord))
	must(t, p.Force(cellIn, yes))
	must(t, p.Force(cellWord, number(30)))
	report := entry(t, p, 10, at("%IX0.0", no), at("%IW1", number(1)), at("%IW1", number(2)))
	if want := []api.Input{at("%QX0.0", yes), at("%QW1", number(30))}; !slices.Equal(report.Outputs, want) {
		t.Error(report)
	}
	has(t, p, cellIn, yes)
	has(t, p, cellWord, number(30))
	must(t, p.Free(cellIn))
	report = entry(t, p, 10, at("%IX0.0", no), at("%IW1", number(1)))
	if want := []api.Input{at("%QX0.0", no), at("%QW1", number(30))}; !slices.Equal(report.Outputs, want) {
		t.Error(report)
	}
	has(t, p, cellIn, no)
	// Without an input for it a forced cell is what it is.
	if report = entry(t, p, 10); report.Outputs[1] != at("%QW1", number(30)) {
		t.Error(report)
	}
}

// P26.3: a forced trigger makes its task due once.
func TestForcedTrigger(t *testing.T) {
	p := started(t, onRise(task("A", 0, 1, countsKept), cellIn))
	must(t, p.Force(cellIn, yes))
	for i, want := range []int{1, 0, 0} {
		if report := entry(t, p, 1, at("%IX0.0", no)); len(report.Ran) != want {
			t.Error(i, report)
		}
	}
	has(t, p, cellKept, number(101))
}

// P26.3: between activations of one entry forced cells may be written; behind it they are not.
func TestForcedBetweenActivations(t *testing.T) {
	p := started(t, task("A", 10, 1, sendsWord), task("B", 10, 2, copiesSum))
	must(t, p.Force(cellSum, number(9)))
	report := entry(t, p, 10)
	has(t, p, cellPlain, number(7))
	has(t, p, cellSum, number(9))
	if want := []api.Input{at("%QX0.0", yes), at("%QW1", number(9))}; !slices.Equal(report.Outputs, want) {
		t.Error(report)
	}
}

// P26.3: in the outputs each forced cell's value stands in the place of its own, in each mode; all else is the resource's report.
func TestForcedOutputs(t *testing.T) {
	for _, mode := range modes() {
		p, q := inMode(t, mode), inMode(t, mode)
		must(t, p.Force(cellOut, no))
		must(t, p.Force(cellSum, number(77)))
		got, want := entry(t, p, 30), entry(t, q, 30)
		if !slices.Equal(got.Outputs, []api.Input{at("%QX0.0", no), at("%QW1", number(77))}) || got.Mode != mode {
			t.Error(got)
		}
		got.Outputs = want.Outputs
		if !sameReport(got, want) {
			t.Error(got, want)
		}
		must(t, p.Free(cellOut))
		if report := entry(t, p, 0); report.Outputs[0] != want.Outputs[0] || report.Outputs[1] != at("%QW1", number(77)) {
			t.Error(report)
		}
		// What was committed, is told where it is not forced any more.
		must(t, p.Free(cellSum))
		if report := entry(t, p, 0); mode != api.ModeRun && !slices.Equal(report.Outputs, want.Outputs) {
			t.Error(report, want)
		}
	}
}

// P26.3: the second of two outputs alone.
func TestOneForcedOutput(t *testing.T) {
	p := panelOf(t, usual(t))
	must(t, p.Force(cellSum, number(5)))
	if report := entry(t, p, 0); !slices.Equal(report.Outputs, []api.Input{at("%QX0.0", yes), at("%QW1", number(5))}) {
		t.Error(report)
	}
}

// P26.3: an entry with an error is that of its inputs as they are: what a forced cell can't have, it is not given; and nothing is changed.
func TestEntryErrors(t *testing.T) {
	for _, mode := range modes() {
		p := inMode(t, mode)
		must(t, p.Force(cellIn, yes))
		must(t, p.Force(cellSum, number(9)))
		ahead := cellsOf(t, p)
		for _, x := range []struct {
			advance int
			inputs  []api.Input
			why     api.Errno
		}{
			{-1, nil, api.ErrTime}, {api.MaxAdvance + 1, nil, api.ErrTime}, {-1, []api.Input{at("%IX0.0", number(1))}, api.ErrTime}, {-1 << 63, []api.Input{at("?", no)}, api.ErrTime}, {1<<63 - 1, nil, api.ErrTime},
			{0, []api.Input{at("%IX0.0", number(1))}, api.ErrInput}, {0, []api.Input{at("%IX0.0", api.Value{})}, api.ErrInput}, {10, []api.Input{at("%IX0.0", no), at("%IX0.0", whole(api.KBool, 2))}, api.ErrInput},
			{0, []api.Input{at("%IW1", yes)}, api.ErrInput}, {0, []api.Input{at("%IX0.1", yes)}, api.ErrInput}, {0, []api.Input{at("", yes)}, api.ErrInput},
			// Forced cells that are no inputs
			{0, []api.Input{at("%QW1", number(1))}, api.ErrInput}, {0, []api.Input{at("%IX0.0", no), at("%QX0.0", no)}, api.ErrInput},
		} {
			report, why := p.Entry(x.advance, x.inputs)
			if why != x.why || !sameReport(report, api.Report{}) {
				t.Error(x, report, why)
			}
			if got := cellsOf(t, p); !slices.Equal(got, ahead) {
				t.Error(x, got)
			}
		}
	}
}

// P26.3: behind a fault, too, forced cells have their values, and stand in the outputs.
func TestFaultOverForces(t *testing.T) {
	p := started(t, task("A", 10, 1, countsSum), task("B", 20, 2, breaks), task("C", 10, 3, countsKept))
	must(t, p.Force(cellOut, no))
	must(t, p.Force(cellKept, number(1)))
	report := entry(t, p, 0)
	want := api.Report{Ran: []string{"A", "B"}, Outputs: []api.Input{at("%QX0.0", no), at("%QW1", number(0))}, Mode: api.ModeFault, Fault: api.FaultZero, In: "B", Over: []int{0, 0, 0}, Steps: report.Steps}
	if !sameReport(report, want) || report.Steps == 0 {
		t.Error(report)
	}
	has(t, p, cellKept, number(1))
	has(t, p, cellSum, number(0))
}
