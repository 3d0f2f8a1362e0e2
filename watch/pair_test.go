package watch_test

import (
	"slices"
	"testing"

	"relay/api"
	"relay/vm"
	"relay/watch"
)

// twinOf is a pair over an image.
func twinOf(t *testing.T, m api.Image) *watch.Pair {
	t.Helper()
	x, why := watch.Twin(m)
	if why != api.OK || x == nil {
		t.Fatal(why)
	}
	return x
}

// counting is a pair that has been started, one more in its sum at each entry of 10.
func counting(t *testing.T) *watch.Pair {
	t.Helper()
	x := twinOf(t, imageOf(t, task("A", 10, 1, countsSum)))
	must(t, x.Start())
	return x
}

// sums checks what the sides have in their sums.
func sums(t *testing.T, x *watch.Pair, want ...int) {
	t.Helper()
	for side, n := range want {
		if l := x.Cells(side); len(l) != numCells || l[cellSum] != number(n) {
			t.Error(side, l, "not", n)
		}
	}
}

// follows checks how many entries the other side does.
func follows(t *testing.T, x *watch.Pair, n, want int) {
	t.Helper()
	if got := x.Follow(n); got != want {
		t.Error(n, got, "not", want)
	}
}

func leads(t *testing.T, x *watch.Pair, want int) {
	t.Helper()
	if got := x.Leads(); got != want {
		t.Error(got, "not", want)
	}
}

// P26.6: a new pair has both sides up, the first one leading, and nothing to be followed.
func TestTwin(t *testing.T) {
	m := usual(t)
	x := twinOf(t, m)
	leads(t, x, 0)
	follows(t, x, 1, 0)
	for side := range 2 {
		if l := x.Cells(side); !slices.Equal(l, vm.Start(m.Cells)) {
			t.Error(side, l)
		}
	}
	if report := entry(t, x, 0); report.Mode != api.ModeStop {
		t.Error(report)
	}
	must(t, x.Down(1))
	leads(t, x, 0)
}

// The chapter's third example.
func TestExampleOfPairs(t *testing.T) {
	x := counting(t)
	for range 3 {
		entry(t, x, 10)
	}
	cells := slices.Clone(x.Cells(0))
	must(t, x.Down(0))
	leads(t, x, 1)
	if got := x.Cells(1); !slices.Equal(got, cells) {
		t.Error(got, cells)
	}
	sums(t, x, 2, 2)
	must(t, x.Down(1))
	leads(t, x, -1)
	_, why := x.Entry(10, nil)
	refuses(t, why, api.ErrSide)
}

// P26.6: the other side does the first entries of its queue, as many as are said and are there.
func TestFollow(t *testing.T) {
	x := counting(t)
	for range 7 {
		entry(t, x, 10)
	}
	sums(t, x, 6, -1)
	for _, n := range []int{0, -1, -1 << 63} {
		follows(t, x, n, 0)
	}
	sums(t, x, 6, -1)
	follows(t, x, 1, 1)
	sums(t, x, 6, 0)
	follows(t, x, 3, 3)
	sums(t, x, 6, 3)
	follows(t, x, 4, 3)
	sums(t, x, 6, 6)
	follows(t, x, 1<<63-1, 0)
	entry(t, x, 10)
	entry(t, x, 10)
	follows(t, x, 1<<63-1, 2)
	sums(t, x, 8, 8)
}

// P26.6: entries are followed with their times and inputs, in their order.
func TestFollowInputs(t *testing.T) {
	x := twinOf(t, imageOf(t, task("A", 10, 1, sendsWord), task("B", 1, 2, copiesSum)))
	must(t, x.Start())
	entry(t, x, 9, at("%IW1", number(1)))
	entry(t, x, 1, at("%IW1", number(2)), at("%IX0.0", yes), at("%IW1", number(3)))
	entry(t, x, 5, at("%IW1", number(4)), at("%IX0.0", no))
	for _, want := range [][]api.Value{{no, number(1), number(1)}, {yes, number(3), number(3)}, {no, number(4), number(3)}} {
		follows(t, x, 1, 1)
		if l := x.Cells(1); l[cellIn] != want[0] || l[cellWord] != want[1] || l[cellSum] != want[2] || l[cellPlain] != want[2] {
			t.Error(l, want)
		}
	}
}

// P26.6: in a queue that is full the first entry is done ahead of the one that is put behind.
func TestFullQueue(t *testing.T) {
	x := counting(t)
	for range api.MaxQueue {
		entry(t, x, 10)
	}
	sums(t, x, api.MaxQueue-1, -1)
	for n := range 5 {
		entry(t, x, 10)
		sums(t, x, api.MaxQueue+n, n)
	}
	// An entry with an error is none that is followed.
	_, why := x.Entry(-1, nil)
	refuses(t, why, api.ErrTime)
	sums(t, x, api.MaxQueue+4, 4)
	follows(t, x, api.MaxQueue+1, api.MaxQueue)
	sums(t, x, api.MaxQueue+4, api.MaxQueue+4)
}

// P26.6: Entry is the leader's, with its report or its error.
func TestEntryOfPairs(t *testing.T) {
	m := usual(t)
	x, r := twinOf(t, m), resourceOf(t, m)
	must(t, x.Start())
	must(t, r.Start())
	for i, e := range []api.Entry{
		{Advance: 0}, {Advance: 25, Inputs: []api.Input{at("%IX0.0", yes)}}, {Advance: -1}, {Advance: api.MaxAdvance + 1}, {Advance: 5, Inputs: []api.Input{at("%IW1", yes)}}, {Advance: 5, Inputs: []api.Input{at("%IX0.0", no), at("%QX0.0", no)}}, {Advance: 40},
	} {
		got, why := x.Entry(e.Advance, e.Inputs)
		want, whether := r.Entry(e.Advance, e.Inputs)
		if !sameReport(got, want) || why != whether || !slices.Equal(x.Cells(0), r.Cells()) {
			t.Error(i, got, want, why)
		}
	}
	follows(t, x, 9, 3)
	if !slices.Equal(x.Cells(1), r.Cells()) {
		t.Error(x.Cells(1))
	}
}

// P26.6: Start starts both, once the other side has done what the leader did; the leader's error is told, and nothing is followed then.
func TestStartOfPairs(t *testing.T) {
	x := twinOf(t, imageOf(t, task("A", 10, 1, countsSum)))
	// While it has stopped, time goes on: 13 is behind the multiple 10, which is passed unseen.
	entry(t, x, 9)
	entry(t, x, 4, at("%IW1", number(1)))
	if x.Cells(1)[cellWord] != number(7) {
		t.Error(x.Cells(1))
	}
	must(t, x.Start())
	if !slices.Equal(x.Cells(0), x.Cells(1)) || x.Cells(1)[cellWord] != number(1) {
		t.Error(x.Cells(0), x.Cells(1))
	}
	follows(t, x, 9, 0)
	entry(t, x, 6)
	follows(t, x, 9, 1)
	sums(t, x, -1, -1)
	entry(t, x, 1)
	refuses(t, x.Start(), api.ErrState)
	sums(t, x, 0, -1)
	follows(t, x, 9, 1)
	sums(t, x, 0, 0)
}

// P26.6: a leader alone is started, and a follower that is down is not.
func TestStartAlone(t *testing.T) {
	x := twinOf(t, imageOf(t, task("A", 10, 1, countsSum)))
	entry(t, x, 10, at("%IW1", number(1)))
	must(t, x.Down(1))
	must(t, x.Start())
	entry(t, x, 0)
	sums(t, x, 0, -1)
	if x.Cells(1)[cellWord] != number(7) {
		t.Error(x.Cells(1))
	}
	follows(t, x, 9, 0)
	// What leads in the other's place is started, too.
	x = twinOf(t, imageOf(t, task("A", 10, 1, countsSum)))
	must(t, x.Down(0))
	must(t, x.Start())
	refuses(t, x.Start(), api.ErrState)
	entry(t, x, 0)
	sums(t, x, -1, 0)
	// None leads.
	must(t, x.Down(1))
	refuses(t, x.Start(), api.ErrSide)
	sums(t, x, -1, 0)
}

// P26.6, P26.7: each side may go down, in each order; no other one may, nor one that is down.
func TestDown(t *testing.T) {
	for first := range 2 {
		x := counting(t)
		entry(t, x, 10)
		entry(t, x, 10)
		follows(t, x, 1, 1)
		for _, side := range []int{-1, 2, 1 << 62, -1 << 63} {
			refuses(t, x.Down(side), api.ErrArg)
		}
		must(t, x.Down(first))
		refuses(t, x.Down(first), api.ErrSide)
		leads(t, x, 1-first)
		// A follower that goes down stays behind; one that leads then has done all.
		sums(t, x, 1, 1-first)
		follows(t, x, 9, 0)
		if report := entry(t, x, 10); !slices.Equal(report.Outputs, []api.Input{at("%QX0.0", yes), at("%QW1", number(2))}) {
			t.Error(report)
		}
		follows(t, x, 9, 0)
		sums(t, x, 1+first, 2-first-first)
		must(t, x.Down(1-first))
		leads(t, x, -1)
		for side := range 2 {
			refuses(t, x.Down(side), api.ErrSide)
		}
		refuses(t, x.Down(2), api.ErrArg)
		report, why := x.Entry(10, nil)
		refuses(t, why, api.ErrSide)
		if !sameReport(report, api.Report{}) {
			t.Error(report)
		}
		// Which it is told ahead of what is wrong with the entry.
		_, why = x.Entry(-1, []api.Input{at("?", yes)})
		refuses(t, why, api.ErrSide)
		refuses(t, x.Start(), api.ErrSide)
		follows(t, x, 9, 0)
		// Sides that are down have what they had.
		sums(t, x, 1+first, 2-first-first)
	}
}

// P26.7: cells of both sides, up or down; none of another number.
func TestCellsOfSides(t *testing.T) {
	x := counting(t)
	entry(t, x, 10)
	must(t, x.Down(1))
	sums(t, x, 0, -1)
	for _, side := range []int{-1, 2, 1<<63 - 1, -1 << 63} {
		if l := x.Cells(side); len(l) > 0 {
			t.Error(side, l)
		}
	}
}

// P26.7: a follower takes over a fault, too.
func TestFaultTakenOver(t *testing.T) {
	x := twinOf(t, imageOf(t, task("A", 10, 1, countsSum, breaksOnIn)))
	must(t, x.Start())
	entry(t, x, 0)
	report := entry(t, x, 10, at("%IX0.0", yes))
	if report.Fault != api.FaultZero {
		t.Error(report)
	}
	sums(t, x, 0, -1)
	must(t, x.Down(0))
	sums(t, x, 0, 0)
	refuses(t, x.Start(), api.ErrState)
	if report := entry(t, x, 10); report.Mode != api.ModeFault || len(report.Ran) > 0 {
		t.Error(report)
	}
}
