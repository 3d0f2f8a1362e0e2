package sched_test

import (
	"slices"
	"testing"

	"relay/api"
	"relay/value"
)

// P23.6: of those that are due the lowest priority runs first, of equal ones the one that waits longest, of these the first one.
func TestTurns(t *testing.T) {
	// The chapter's examples
	if got := ran(t, started(t, task("A", 10, 2), task("B", 10, 1)), 0); got != "B A" {
		t.Error(got)
	}
	for _, x := range []struct {
		jobs    []api.Job
		advance int
		want    string
	}{
		{[]api.Job{task("A", 10, 1), task("B", 10, 1), task("C", 10, 1)}, 10, "A B C"},
		{[]api.Job{task("A", 10, 3), task("B", 10, 0), task("C", 10, 65535), task("D", 10, 2)}, 10, "B D A C"},
		{[]api.Job{task("A", 10, 1), task("B", 9, 1), task("C", 8, 1)}, 10, "C B A"},
		{[]api.Job{task("A", 10, 1), task("B", 9, 2), task("C", 8, 3)}, 10, "A B C"},
		{[]api.Job{task("A", 5, 2), task("B", 7, 1), task("C", 6, 2), task("D", 5, 2), task("E", 4, 2)}, 7, "B E A D C"},
		// Many multiples: since the first of them
		{[]api.Job{task("A", 4, 1), task("B", 3, 1)}, 100, "B A"},
		{[]api.Job{task("A", 9, 1), task("B", 11, 0), task("C", 2, 1)}, 10, "C A"},
	} {
		r := started(t, x.jobs...)
		entry(t, r, 1)
		if got := ran(t, r, x.advance-1); got != x.want {
			t.Error(x, got)
		}
	}
	// At a first entry all have waited since the start.
	if got := ran(t, started(t, task("A", 10, 1), task("B", 3, 1), task("C", 5, 1)), 20); got != "A B C" {
		t.Error(got)
	}
}

// An event waits since the entry's time: all multiples that passed waited longer, but for that time itself.
func TestTurnsOfEvents(t *testing.T) {
	yes := at("%IX0.0", value.Bool(true))
	jobs := []api.Job{onRise(task("A", 0, 1), cellIn), task("B", 10, 1), task("C", 9, 1), onRise(task("D", 0, 1), cellIn), onRise(task("E", 0, 0), cellIn)}
	r := started(t, jobs...)
	entry(t, r, 1)
	if got := ran(t, r, 9, yes); got != "E C A B D" {
		t.Error(got)
	}
}

// Each one sees what those ahead of it in the entry have left; the report has all their steps.
func TestOneBehindTheOther(t *testing.T) {
	r := started(t, task("A", 10, 2, sendsWord), task("B", 10, 1, setsTrigger, countsSum), task("C", 10, 3, countsSum, countsHere))
	report := entry(t, r, 0)
	if want := 3 + 3 + 5 + 5 + 5; report.Steps != want {
		t.Error(report)
	}
	shows(t, r, true, 8)
	has(t, r, cellTrigger, value.Bool(true))
	has(t, r, cellKept, number(101))
}

// Each program has its own first cell: two instances of one program are two.
func TestBases(t *testing.T) {
	j := task("A", 10, 1, countsHere, countsHere, countsHere)
	j.Bases = []int{cellKept, cellPlain, cellKept}
	r := started(t, j)
	entry(t, r, 0)
	has(t, r, cellKept, number(102))
	has(t, r, cellPlain, number(201))
}

// Programs run at the time behind the entry.
func TestTimeOfPrograms(t *testing.T) {
	m := imageOf(t, task("A", 1, 1, 0))
	m.Cells = []api.Cell{
		{Kind: api.KBool, Init: value.Bool(true)}, {Kind: api.KTime, Init: whole(api.KTime, 50)}, {Kind: api.KBool, Init: value.Zero(api.KBool), Dir: 2, Addr: "%QX0.0"}, {Kind: api.KTime, Init: value.Zero(api.KTime)},
		{Kind: api.KBool, Init: value.Zero(api.KBool)}, {Kind: api.KTime, Init: value.Zero(api.KTime)},
	}
	m.Codes = codes(t, "block B9 C2; return")
	m.Jobs[0].Bases = []int{0}
	r := made(t, m)
	entry(t, r, 1000)
	must(t, r.Start())
	for _, x := range []struct{ advance, since, out int }{{7, 0, 0}, {1, 1, 0}, {48, 49, 0}, {1, 50, 1}, {100, 50, 1}} {
		report := entry(t, r, x.advance)
		has(t, r, 3, whole(api.KTime, x.since))
		if report.Outputs[0].Value.Bits != uint64(x.out) {
			t.Error(x, report)
		}
	}
}

// A task's bound is for all its programs in one activation, and for each activation anew.
func TestBounds(t *testing.T) {
	for bound := range 14 {
		r := started(t, within(task("A", 10, 1, countsSum, doesNothing, countsKept, doesNothing), bound), within(task("B", 10, 2, countsSum), 5))
		report := entry(t, r, 0)
		if bound < 12 {
			want := api.Report{Ran: []string{"A"}, Outputs: made(t, imageOf(t)).Outputs(), Mode: api.ModeFault, Fault: api.FaultSteps, In: "A", Over: []int{0, 0}, Steps: bound}
			if !sameReport(report, want) {
				t.Error(bound, report)
			}
			has(t, r, cellKept, number(100))
			has(t, r, cellSum, number(-1))
			continue
		}
		if report.Mode != api.ModeRun || report.Steps != 17 || report.Fault != 0 {
			t.Error(bound, report)
		}
		if report := entry(t, r, 10); report.Mode != api.ModeRun || report.Steps != 17 {
			t.Error(bound, report)
		}
	}
	r := started(t, within(task("A", 10, 1, goesOn), api.MaxBound))
	if report := entry(t, r, 0); report.Fault != api.FaultSteps || report.Steps != api.MaxBound {
		t.Error(report)
	}
	// None at all are enough for no programs.
	r = started(t, within(task("A", 10, 1), 0))
	if report := entry(t, r, 0); report.Fault != 0 || !slices.Equal(report.Ran, []string{"A"}) {
		t.Error(report)
	}
}

// P23.7: a fault commits nothing of its activation, in the first program or a later one; what ran ahead of it is committed; nothing runs behind it.
func TestFaults(t *testing.T) {
	for _, x := range []struct {
		jobs      []api.Job
		ran       string
		in        string
		sum, kept int
		steps     int
	}{
		{[]api.Job{task("A", 10, 1, breaks)}, "A", "A", -1, 100, 4},
		{[]api.Job{task("A", 10, 1, countsSum, countsKept, breaks, countsKept)}, "A", "A", -1, 100, 14},
		{[]api.Job{task("A", 10, 1, countsSum), task("B", 10, 2, countsSum, breaks), task("C", 10, 3, countsSum)}, "A B", "B", 0, 100, 14},
		{[]api.Job{task("A", 10, 3, countsSum), task("B", 10, 2, breaks), task("C", 10, 1, countsKept)}, "C B", "B", -1, 101, 9},
		{[]api.Job{task("A", 10, 1, breaks), task("B", 10, 0, countsSum), task("C", 10, 0, countsKept)}, "B C A", "A", 0, 101, 14},
		{[]api.Job{task("A", 10, 1, breaks), task("B", 10, 2, breaks)}, "A", "A", -1, 100, 4},
	} {
		r := started(t, x.jobs...)
		report := entry(t, r, 0, at("%IW1", number(55)))
		names := ""
		for i, s := range report.Ran {
			if i > 0 {
				names += " "
			}
			names += s
		}
		if names != x.ran || report.In != x.in || report.Fault != api.FaultZero || report.Mode != api.ModeFault || report.Steps != x.steps || r.Mode() != api.ModeFault {
			t.Error(x, report)
		}
		shows(t, r, true, x.sum)
		if !slices.Equal(report.Outputs, r.Outputs()) {
			t.Error(report, r.Outputs())
		}
		has(t, r, cellSum, number(x.sum))
		has(t, r, cellKept, number(x.kept))
		// Inputs were latched ahead of it.
		has(t, r, cellWord, number(55))
	}
}

// A fault of each number is told.
func TestFaultNumbers(t *testing.T) {
	for fault := api.FaultOver; fault <= api.FaultSteps; fault++ {
		m := imageOf(t, task("A", 10, 1, 0, 0))
		m.Codes = codes(t, "fault")
		m.Codes[0].Ops[0].A = fault
		r := made(t, m)
		must(t, r.Start())
		if report := entry(t, r, 0); report.Fault != fault || report.In != "A" || report.Steps != 1 {
			t.Error(fault, report)
		}
	}
}

// What was poked is committed by the next activation, whatever that does.
func TestCommitted(t *testing.T) {
	r := started(t, task("A", 10, 1, doesNothing), task("B", 15, 2, breaks))
	must(t, r.Poke(cellOut, value.Bool(false)))
	report := entry(t, r, 0)
	if report.Outputs[0].Value != value.Bool(false) || report.In != "B" {
		t.Error(report)
	}
	must(t, r.Poke(cellOut, value.Bool(true)))
	entry(t, r, 30)
	shows(t, r, false, -1)
}
