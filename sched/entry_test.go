package sched_test

import (
	"slices"
	"testing"

	"relay/api"
	"relay/sched"
	"relay/value"
)

// checkNoEntry checks that an entry answers an error, and changes nothing.
func checkNoEntry(t *testing.T, r *sched.Resource, advance int, why api.Errno, inputs ...api.Input) {
	t.Helper()
	ahead := stateOf(r)
	report, got := r.Entry(advance, inputs)
	if got != why || !sameReport(report, api.Report{}) || !stateOf(r).same(ahead) {
		t.Error(advance, inputs, got, report, ahead, stateOf(r))
	}
}

// P23.3: a time that can't be, in each mode, ahead of an input that can't be.
func TestTimesThatCantBe(t *testing.T) {
	odd := at("%IX9.9", value.Bool(true))
	for _, mode := range []int{api.ModeStop, api.ModeRun, api.ModeFault} {
		r := inMode(t, mode)
		for _, advance := range []int{-1, -1 << 63, api.MaxAdvance + 1, 1<<63 - 1, api.MaxNow} {
			checkNoEntry(t, r, advance, api.ErrTime)
			checkNoEntry(t, r, advance, api.ErrTime, odd)
		}
		checkNoEntry(t, r, api.MaxAdvance, api.ErrInput, odd)
		entry(t, r, api.MaxAdvance)
		if r.Now() != 25+api.MaxAdvance {
			t.Error(r.Now())
		}
	}
}

// P23.3: now is at most MaxNow.
func TestMaxNow(t *testing.T) {
	r := started(t, task("A", api.MaxNow, 1, countsKept))
	if got := ran(t, r, 0); got != "A" {
		t.Error(got)
	}
	for r.Now() < api.MaxNow-api.MaxAdvance {
		entry(t, r, api.MaxAdvance)
	}
	if got := ran(t, r, api.MaxAdvance-5); got != "" {
		t.Error(got)
	}
	checkNoEntry(t, r, 6, api.ErrTime)
	checkNoEntry(t, r, api.MaxAdvance, api.ErrTime)
	if got := ran(t, r, 5); got != "A" || r.Now() != api.MaxNow {
		t.Error(got, r.Now())
	}
	checkNoEntry(t, r, 1, api.ErrTime)
	if got := ran(t, r, 0); got != "" || r.Mode() != api.ModeRun {
		t.Error(got, r.Mode())
	}
}

// P23.3: an input that can't be, alone and among others, in each mode.
func TestInputsThatCantBe(t *testing.T) {
	good := at("%IW1", number(1))
	for _, mode := range []int{api.ModeStop, api.ModeRun, api.ModeFault} {
		r := inMode(t, mode)
		for _, odd := range []api.Input{
			{}, at("", number(1)), at("%IW0", number(1)), at("%iw1", number(1)), at("%IW1 ", number(1)),
			at("%QX0.0", value.Bool(true)), at("%QW1", number(1)), at("%MW1", number(1)), at("IW1", number(1)),
			at("%IW1", api.Value{}), at("%IW1", value.Bool(true)), at("%IW1", whole(api.KDint, 1)), at("%IW1", whole(api.KUint, 1)),
			at("%IW1", number(40000)), at("%IW1", api.Value{Kind: api.KInt, Text: "1"}), at("%IX0.0", number(1)), at("%IX0.0", whole(api.KBool, 2)), at("%IX0.0", whole(api.KRef, 0)),
		} {
			checkNoEntry(t, r, 0, api.ErrInput, odd)
			checkNoEntry(t, r, 10, api.ErrInput, odd)
			checkNoEntry(t, r, 10, api.ErrInput, good, odd)
			checkNoEntry(t, r, 10, api.ErrInput, odd, good)
		}
		entry(t, r, 0, good)
		has(t, r, cellWord, number(1))
	}
}

// Memory and outputs are no inputs, though they have addresses.
func TestMemoryIsNoInput(t *testing.T) {
	m := imageOf(t)
	m.Cells[cellPlain].Addr = "%MW5"
	r := made(t, m)
	checkNoEntry(t, r, 1, api.ErrInput, at("%MW5", number(1)))
	if got := r.Outputs(); len(got) != 2 {
		t.Error(got)
	}
}

// An entry with an error is none: the next one is still the first behind a start.
func TestNoEntryIsNotTheFirst(t *testing.T) {
	r := started(t, task("A", 10, 1, countsKept), onRise(task("B", 0, 1, countsKept), cellOther))
	checkNoEntry(t, r, -1, api.ErrTime)
	checkNoEntry(t, r, 10, api.ErrInput, at("%IX7.7", value.Bool(true)))
	if got := ran(t, r, 3); got != "A B" {
		t.Error(got)
	}
}

// Inputs are latched ahead of what runs, in their order: the last one for an address holds; what has none stays.
func TestLatched(t *testing.T) {
	r := started(t, task("A", 10, 1, sendsIn, sendsWord))
	yes, no := value.Bool(true), value.Bool(false)
	entry(t, r, 0)
	shows(t, r, false, 7)
	entry(t, r, 10, at("%IW1", number(1)), at("%IX0.0", yes), at("%IW1", number(2)), at("%IW1", number(-3)))
	shows(t, r, true, -3)
	entry(t, r, 10)
	shows(t, r, true, -3)
	entry(t, r, 10, at("%IX0.0", yes), at("%IX0.0", no))
	shows(t, r, false, -3)
	// What is latched where nothing runs is there when something does.
	entry(t, r, 1, at("%IW1", number(32767)))
	shows(t, r, false, -3)
	has(t, r, cellWord, number(32767))
	entry(t, r, 9)
	shows(t, r, false, 32767)
}

// Programs may set an input's cell, which stays so until it is latched again.
func TestInputsAreCells(t *testing.T) {
	m := imageOf(t, task("A", 10, 1, 0))
	m.Codes = codes(t, "load B2 C1; const A1 INT#1; do A2 C1 add; store A2 B2 C1; return")
	r := made(t, m)
	must(t, r.Start())
	entry(t, r, 0)
	has(t, r, cellWord, number(8))
	entry(t, r, 10)
	has(t, r, cellWord, number(9))
	entry(t, r, 10, at("%IW1", number(100)))
	has(t, r, cellWord, number(101))
}

// P23.3: what a report tells.
func TestReport(t *testing.T) {
	r := started(t, task("A", 10, 2, countsSum, countsKept), task("B", 20, 1, doesNothing), task("C", 3, 9, breaks))
	ahead := r.Outputs()
	report := entry(t, r, 0)
	want := api.Report{
		Ran: []string{"B", "A", "C"}, Outputs: []api.Input{at("%QX0.0", value.Bool(true)), at("%QW1", number(0))}, Mode: api.ModeFault,
		Fault: api.FaultZero, In: "C", Over: []int{0, 0, 0}, Steps: 1 + 10 + 4,
	}
	if !sameReport(report, want) || !slices.Equal(r.Outputs(), want.Outputs) || slices.Equal(ahead, want.Outputs) {
		t.Error(report, want)
	}
	report = entry(t, r, 50)
	if !sameReport(report, api.Report{Outputs: want.Outputs, Mode: api.ModeFault, Over: []int{0, 0, 0}}) {
		t.Error(report)
	}
}
