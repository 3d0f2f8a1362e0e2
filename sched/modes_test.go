package sched_test

import (
	"slices"
	"testing"

	"relay/api"
	"relay/sched"
	"relay/value"
	"relay/vm"
)

// inMode is a resource in a mode, at the time 25, whose cells, outputs and overruns are not those that it began with: task A has one overrun, B none.
func inMode(t *testing.T, mode int) *sched.Resource {
	t.Helper()
	r := started(t, task("A", 10, 1, countsSum, countsKept, countsHere), onRise(task("B", 0, 2, breaks), cellIn))
	entry(t, r, 0)
	entry(t, r, 25, at("%IW1", number(8)))
	must(t, r.Poke(cellPlain, number(3)))
	switch mode {
	case api.ModeStop:
		must(t, r.Stop())
	case api.ModeFault:
		entry(t, r, 0, at("%IX0.0", value.Bool(true)))
	}
	if r.Mode() != mode || r.Now() != 25 {
		t.Fatal(stateOf(r))
	}
	return r
}

// overruns is what an entry of no time tells of them.
func overruns(t *testing.T, r *sched.Resource) []int {
	t.Helper()
	return entry(t, r, 0).Over
}

// checkRefused checks that a call answers ErrState, and changes nothing.
func checkRefused(t *testing.T, r *sched.Resource, call func() api.Errno) {
	t.Helper()
	ahead, over := stateOf(r), overruns(t, r)
	if why := call(); why != api.ErrState {
		t.Error(ahead.mode, why)
	}
	if !stateOf(r).same(ahead) || !slices.Equal(overruns(t, r), over) {
		t.Error(ahead, stateOf(r))
	}
}

// P23.2: Start starts what has stopped, and nothing else; time, cells and outputs stay, overruns are gone.
func TestStart(t *testing.T) {
	for _, mode := range []int{api.ModeRun, api.ModeFault} {
		r := inMode(t, mode)
		checkRefused(t, r, r.Start)
	}
	r := inMode(t, api.ModeStop)
	ahead := stateOf(r)
	if over := overruns(t, r); !slices.Equal(over, []int{1, 0}) {
		t.Error(over)
	}
	must(t, r.Start())
	ahead.mode = api.ModeRun
	if !stateOf(r).same(ahead) {
		t.Error(ahead, stateOf(r))
	}
	if over := overruns(t, r); !slices.Equal(over, []int{0, 0}) {
		t.Error(over)
	}
}

// P23.2: Stop stops what runs, and nothing else; all else stays.
func TestStop(t *testing.T) {
	for _, mode := range []int{api.ModeStop, api.ModeFault} {
		r := inMode(t, mode)
		checkRefused(t, r, r.Stop)
	}
	r := inMode(t, api.ModeRun)
	ahead := stateOf(r)
	must(t, r.Stop())
	ahead.mode = api.ModeStop
	if !stateOf(r).same(ahead) {
		t.Error(ahead, stateOf(r))
	}
	if over := overruns(t, r); !slices.Equal(over, []int{1, 0}) {
		t.Error(over)
	}
}

// P23.2, P10: Reset makes what does not run as it was at first, but for the time, and, warm, for what is kept.
func TestReset(t *testing.T) {
	for _, warm := range []bool{true, false} {
		r := inMode(t, api.ModeRun)
		checkRefused(t, r, func() api.Errno { return r.Reset(warm) })
		for _, mode := range []int{api.ModeStop, api.ModeFault} {
			r := inMode(t, mode)
			has(t, r, cellKept, number(104))
			has(t, r, cellWord, number(8))
			must(t, r.Reset(warm))
			want := state{25, api.ModeStop, vm.Start(someCells()), nil}
			if warm {
				want.cells[cellKept] = number(104)
			}
			want.outputs = []api.Input{at("%QX0.0", value.Bool(true)), at("%QW1", number(-1))}
			if got := stateOf(r); !got.same(want) {
				t.Error(warm, mode, got, want)
			}
			report := entry(t, r, 1)
			if !slices.Equal(report.Over, []int{0, 0}) || len(report.Ran) != 0 || report.Fault != 0 || report.In != "" || r.Now() != 26 {
				t.Error(report)
			}
			must(t, r.Start())
			if got := ran(t, r, 4); got != "A" {
				t.Error(got)
			}
		}
	}
}

// An output that is kept is committed as it is kept.
func TestResetOfKeptOutput(t *testing.T) {
	m := imageOf(t)
	m.Cells[cellSum].Keep = true
	r := made(t, m)
	must(t, r.Poke(cellSum, number(9)))
	shows(t, r, true, -1)
	must(t, r.Reset(true))
	shows(t, r, true, 9)
	must(t, r.Reset(false))
	shows(t, r, true, -1)
}

// In other modes than ModeRun an entry lets time go on, and latches inputs; no task runs, and no trigger is seen.
func TestEntryWithoutRunning(t *testing.T) {
	for _, mode := range []int{api.ModeStop, api.ModeFault} {
		r := inMode(t, mode)
		ahead := stateOf(r)
		report := entry(t, r, 100, at("%IW1", number(9)), at("%IX0.0", value.Bool(false)))
		if want := (api.Report{Outputs: ahead.outputs, Mode: mode, Over: []int{1, 0}}); !sameReport(report, want) {
			t.Error(mode, report, want)
		}
		ahead.now, ahead.cells[cellWord], ahead.cells[cellIn] = 125, number(9), value.Bool(false)
		if !stateOf(r).same(ahead) {
			t.Error(ahead, stateOf(r))
		}
	}
}

// What passes while it has stopped makes nothing due; the time of the next start does, if it is a multiple.
func TestStartAgain(t *testing.T) {
	r := started(t, task("A", 10, 1, countsKept))
	if got := ran(t, r, 5); got != "A" {
		t.Error(got)
	}
	must(t, r.Stop())
	entry(t, r, 38)
	must(t, r.Start())
	for _, x := range []struct {
		advance int
		ran     string
	}{{6, ""}, {1, "A"}, {9, ""}, {0, ""}} {
		if got := ran(t, r, x.advance); got != x.ran {
			t.Error(x, got)
		}
	}
	must(t, r.Stop())
	entry(t, r, 1)
	must(t, r.Start())
	if report := entry(t, r, 0); len(report.Ran) != 1 || report.Over[0] != 0 {
		t.Error(report)
	}
	must(t, r.Stop())
	must(t, r.Start())
	if report := entry(t, r, 10); len(report.Ran) != 1 || report.Over[0] != 1 {
		t.Error(report)
	}
	has(t, r, cellKept, number(104))
}

// Behind a fault nothing waits any more: a start behind a reset begins anew.
func TestNothingWaitsBehindAFault(t *testing.T) {
	r := started(t, task("A", 10, 1, breaks), task("B", 7, 2, countsKept), onRise(task("C", 0, 3, countsKept), cellOther))
	if report := entry(t, r, 35); report.In != "A" || !slices.Equal(report.Over, []int{3, 5, 0}) {
		t.Error(report)
	}
	if report := entry(t, r, 5); len(report.Ran) != 0 || !slices.Equal(report.Over, []int{3, 5, 0}) || report.Fault != 0 || report.In != "" {
		t.Error(report)
	}
	must(t, r.Reset(true))
	must(t, r.Poke(cellOther, value.Bool(false)))
	must(t, r.Start())
	if got := ran(t, r, 1); got != "A" {
		t.Error(got)
	}
	must(t, r.Reset(false))
	must(t, r.Poke(cellOther, value.Bool(false)))
	must(t, r.Start())
	if got := ran(t, r, 1); got != "B" {
		t.Error(got)
	}
	has(t, r, cellKept, number(101))
}
