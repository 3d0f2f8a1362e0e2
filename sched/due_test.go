package sched_test

import (
	"slices"
	"testing"

	"relay/api"
	"relay/value"
)

// due is an entry, and what it comes to: whether the only task ran, and its overruns so far.
type due struct {
	advance int
	ran     bool
	over    int
}

// checkDue starts a task at a time, and checks each entry.
func checkDue(t *testing.T, begin, interval int, l ...due) {
	t.Helper()
	r := made(t, imageOf(t, task("A", interval, 1, countsKept)))
	entry(t, r, begin)
	must(t, r.Start())
	runs := 0
	for i, x := range l {
		report := entry(t, r, x.advance)
		if x.ran {
			runs++
		}
		if is := len(report.Ran) == 1; is != x.ran || len(report.Ran) > 1 || report.Over[0] != x.over {
			t.Fatal(begin, interval, i, x, report)
		}
		has(t, r, cellKept, number(100+runs))
	}
}

// A cyclic task is due at each multiple of its interval: none, one or many in an entry; at the time of the start, if that is one.
func TestCyclic(t *testing.T) {
	ms := 1000000
	// The chapter's example
	checkDue(t, 0, 10*ms, due{0, true, 0}, due{35 * ms, true, 2}, due{4 * ms, false, 2}, due{1 * ms, true, 2})
	// At a multiple, ahead of it, behind it
	checkDue(t, 0, 10, due{0, true, 0}, due{0, false, 0}, due{9, false, 0}, due{1, true, 0}, due{0, false, 0}, due{1, false, 0}, due{9, true, 0}, due{10, true, 0}, due{11, true, 0}, due{8, false, 0}, due{1, true, 0})
	// The first entry leads on at once.
	checkDue(t, 0, 10, due{9, true, 0}, due{1, true, 0})
	checkDue(t, 0, 10, due{10, true, 1}, due{9, false, 1})
	checkDue(t, 0, 10, due{25, true, 2}, due{4, false, 2}, due{1, true, 2})
	// Started elsewhere than at a multiple
	checkDue(t, 7, 10, due{0, false, 0}, due{2, false, 0}, due{1, true, 0}, due{30, true, 2})
	checkDue(t, 7, 10, due{13, true, 1})
	checkDue(t, 11, 10, due{8, false, 0}, due{1, true, 0})
	checkDue(t, 20, 10, due{0, true, 0}, due{9, false, 0}, due{1, true, 0})
	// Each nanosecond
	checkDue(t, 3, 1, due{0, true, 0}, due{0, false, 0}, due{1, true, 0}, due{5, true, 4}, due{100, true, 103})
	// More than ever passes: 0 alone is a multiple.
	checkDue(t, 0, 1<<63-1, due{0, true, 0}, due{api.MaxAdvance, false, 0})
	checkDue(t, 1, 1<<63-1, due{0, false, 0}, due{api.MaxAdvance, false, 0})
	checkDue(t, 1, api.MaxAdvance, due{api.MaxAdvance - 2, false, 0}, due{1, true, 0}, due{api.MaxAdvance, true, 0})
}

// Overruns stop at 2^31 - 1.
func TestMostOverruns(t *testing.T) {
	const most = 1<<31 - 1
	checkDue(t, 1, 1, due{most + 1, true, most}, due{5, true, most}, due{1, true, most}, due{0, false, most}, due{api.MaxAdvance, true, most})
	checkDue(t, 1, 1, due{most - 1, true, most - 1}, due{1, true, most - 1}, due{2, true, most}, due{2, true, most})
	checkDue(t, 0, 1, due{api.MaxAdvance, true, most}, due{api.MaxAdvance, true, most})
}

// A task without an interval or a trigger is never due; one without programs runs, and does nothing.
func TestTasksWithoutMuch(t *testing.T) {
	r := started(t, task("A", 0, 1, countsKept), task("B", 10, 1))
	report := entry(t, r, 30)
	if !slices.Equal(report.Ran, []string{"B"}) || !slices.Equal(report.Over, []int{0, 3}) || report.Steps != 0 || report.Mode != api.ModeRun {
		t.Error(report)
	}
	// It commits, too.
	must(t, r.Poke(cellSum, number(77)))
	shows(t, r, true, -1)
	entry(t, r, 10)
	shows(t, r, true, 77)
}

// An event task is due when its trigger is TRUE and was FALSE at the entry ahead; at a first entry, when it is TRUE.
func TestEvents(t *testing.T) {
	yes, no := at("%IX0.0", value.Bool(true)), at("%IX0.0", value.Bool(false))
	r := started(t, onRise(task("A", 0, 1, countsKept), cellIn))
	runs := 0
	for i, x := range []struct {
		inputs []api.Input
		ran    string
	}{
		{nil, ""}, {[]api.Input{yes}, "A"}, {nil, ""}, {[]api.Input{yes}, ""}, {[]api.Input{no}, ""}, {nil, ""}, {[]api.Input{yes}, "A"},
		{[]api.Input{no, yes}, ""}, {[]api.Input{yes, no}, ""}, {[]api.Input{no, yes}, "A"},
	} {
		if got := ran(t, r, i%3, x.inputs...); got != x.ran {
			t.Fatal(i, got)
		}
		runs += len(x.ran)
		has(t, r, cellKept, number(100+runs))
	}
	// While it has stopped nothing is seen: what rose then, or was TRUE all the time, is TRUE at the first entry.
	must(t, r.Stop())
	entry(t, r, 0, no)
	entry(t, r, 0, yes)
	must(t, r.Start())
	if got := ran(t, r, 0) + ran(t, r, 0); got != "A" {
		t.Error(got)
	}
	must(t, r.Stop())
	must(t, r.Start())
	if got := ran(t, r, 0) + ran(t, r, 0); got != "A" {
		t.Error(got)
	}
	must(t, r.Stop())
	entry(t, r, 0, no)
	must(t, r.Start())
	if got := ran(t, r, 0) + ran(t, r, 0, yes); got != "A" {
		t.Error(got)
	}
}

// Any BOOL may be a trigger: one that is poked, or TRUE at first, one output.
func TestTriggers(t *testing.T) {
	r := started(t, onRise(task("A", 0, 1), cellTrigger), onRise(task("B", 0, 1), cellOther), onRise(task("C", 0, 1), cellOut), onRise(task("D", 0, 1), cellTrigger))
	if got := ran(t, r, 0); got != "B C" {
		t.Error(got)
	}
	must(t, r.Poke(cellTrigger, value.Bool(true)))
	must(t, r.Poke(cellOther, value.Bool(false)))
	if got := ran(t, r, 0); got != "A D" {
		t.Error(got)
	}
	must(t, r.Poke(cellOther, value.Bool(true)))
	if got := ran(t, r, 0); got != "B" {
		t.Error(got)
	}
	// What is TRUE again at the next entry has not risen in between.
	must(t, r.Poke(cellOther, value.Bool(false)))
	must(t, r.Poke(cellOther, value.Bool(true)))
	if got := ran(t, r, 0); got != "" {
		t.Error(got)
	}
}

// A program that sets a task's trigger makes it due at the next entry: who is due is asked ahead of all that run.
func TestProgramsSetTriggers(t *testing.T) {
	r := started(t, task("A", 10, 1, setsTrigger), onRise(task("B", 0, 2, countsKept), cellTrigger), task("C", 30, 3, clears))
	for i, want := range []string{"A C", "A", "A B", "A C", "A", "A B"} {
		if got := ran(t, r, 10*min(i, 1)); got != want {
			t.Error(i, got)
		}
	}
	has(t, r, cellKept, number(102))
	// What an activation sets and a later one clears in the same entry is not seen.
	r = started(t, task("A", 10, 1, setsTrigger), task("B", 10, 2, clears), onRise(task("C", 0, 1, countsKept), cellTrigger))
	for range 3 {
		if got := ran(t, r, 10); got != "A B" {
			t.Error(got)
		}
	}
}

// A task with both is due by either: by the interval first, so that a trigger that rises beside it is an overrun.
func TestBoth(t *testing.T) {
	yes, no := at("%IX0.0", value.Bool(true)), at("%IX0.0", value.Bool(false))
	r := started(t, onRise(task("A", 10, 1, countsKept), cellIn))
	for i, x := range []struct {
		advance int
		input   api.Input
		ran     string
		over    int
	}{
		{0, no, "A", 0}, {5, yes, "A", 0}, {5, no, "A", 0}, {10, yes, "A", 1}, {10, yes, "A", 1}, {35, no, "A", 3}, {5, yes, "A", 4}, {9, no, "", 4}, {0, yes, "A", 4}, {21, yes, "A", 6},
	} {
		report := entry(t, r, x.advance, x.input)
		if got := len(report.Ran) == 1; got != (x.ran == "A") || report.Over[0] != x.over {
			t.Fatal(i, report)
		}
	}
	// It waits since the multiple, not since now.
	r = started(t, onRise(task("A", 7, 1), cellIn), task("B", 6, 1), task("C", 8, 1))
	entry(t, r, 5)
	if got := ran(t, r, 4, yes); got != "B A C" {
		t.Error(got)
	}
}
