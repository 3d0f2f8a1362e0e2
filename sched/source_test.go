package sched_test

import (
	"math/rand"
	"slices"
	"strings"
	"testing"

	"relay/api"
	"relay/listing"
	"relay/sched"
	"relay/value"
)

// The cells of the images of most tests.
const (
	cellIn      = iota // %IX0.0
	cellWord           // %IW1
	cellOut            // %QX0.0
	cellSum            // %QW1
	cellKept           // INT, kept
	cellPlain          // INT
	cellTrigger        // BOOL
	cellOther          // BOOL, TRUE at first
	numCells
)

func whole(k api.Kind, n int) api.Value { return api.Value{Kind: k, Bits: uint64(n)} }

func number(n int) api.Value { return whole(api.KInt, n) }

// someCells is such cells.
func someCells() []api.Cell {
	return []api.Cell{
		cellIn:      {Kind: api.KBool, Init: value.Bool(false), Dir: 1, Addr: "%IX0.0"},
		cellWord:    {Kind: api.KInt, Init: number(7), Dir: 1, Addr: "%IW1"},
		cellOut:     {Kind: api.KBool, Init: value.Bool(true), Dir: 2, Addr: "%QX0.0"},
		cellSum:     {Kind: api.KInt, Init: number(-1), Dir: 2, Addr: "%QW1"},
		cellKept:    {Kind: api.KInt, Init: number(100), Keep: true},
		cellPlain:   {Kind: api.KInt, Init: number(200)},
		cellTrigger: {Kind: api.KBool, Init: value.Bool(false)},
		cellOther:   {Kind: api.KBool, Init: value.Bool(true)},
	}
}

// Programs of most tests; their numbers are those of an image's codes.
const (
	countsSum   = iota // one more in the sum: 5 steps
	countsKept         // one more in the kept cell: 5 steps
	countsHere         // one more in the first cell of the instance: 5 steps
	sendsIn            // the output is the input: 3 steps
	sendsWord          // the sum is the word: 3 steps
	setsTrigger        // the trigger is TRUE: 3 steps
	clears             // the trigger is FALSE: 3 steps
	breaks             // the sum and the kept cell are 5, then FaultZero: 4 steps
	goesOn             // 1 step and 3 more for each round, without end
	doesNothing        // 1 step
	numCodes
)

func texts() []string {
	return []string{
		countsSum:   "load B2 C3; const A1 INT#1; do A2 C1 add; store A2 B2 C3; return",
		countsKept:  "load B2 C4; const A1 INT#1; do A2 C1 add; store A2 B2 C4; return",
		countsHere:  "load B1 C0; const A1 INT#1; do A2 C1 add; store A2 B1 C0; return",
		sendsIn:     "load B2 C0; store B2 C2; return",
		sendsWord:   "load B2 C1; store B2 C3; return",
		setsTrigger: "const TRUE; store B2 C6; return",
		clears:      "const FALSE; store B2 C6; return",
		breaks:      "const INT#5; store B2 C3; store B2 C4; fault A2; return",
		goesOn:      "move; move; move; jump",
		doesNothing: "return",
	}
}

// codes is the codes of listings.
func codes(t *testing.T, texts ...string) []api.Flat {
	t.Helper()
	var l []api.Flat
	for _, text := range texts {
		f, is := listing.Read(text)
		if !is {
			t.Fatal(text)
		}
		f.Name, f.What, f.Base, f.Regs = "P", api.PouProgram, -1, api.MaxRegs
		l = append(l, f)
	}
	return l
}

// task is a task of programs over the cells from the kept one on, without a trigger, of the bound 100.
func task(name string, interval, priority int, programs ...int) api.Job {
	j := api.Job{Name: name, Interval: interval, Single: -1, Priority: priority, Bound: 100, Codes: programs}
	for range programs {
		j.Bases = append(j.Bases, cellKept)
	}
	return j
}

// onRise is a task that has a trigger.
func onRise(j api.Job, cell int) api.Job {
	j.Single = cell
	return j
}

// within is a task of another bound.
func within(j api.Job, bound int) api.Job {
	j.Bound = bound
	return j
}

// imageOf is an image of such cells and programs, and of tasks.
func imageOf(t *testing.T, jobs ...api.Job) api.Image {
	t.Helper()
	return api.Image{Name: "M", Cells: someCells(), Codes: codes(t, texts()...), Jobs: jobs}
}

// made is a resource of an image.
func made(t *testing.T, m api.Image) *sched.Resource {
	t.Helper()
	r, why := sched.New(m)
	if why != api.OK || r == nil {
		t.Fatal(why)
	}
	return r
}

// started is a resource of tasks that has been started.
func started(t *testing.T, jobs ...api.Job) *sched.Resource {
	t.Helper()
	r := made(t, imageOf(t, jobs...))
	must(t, r.Start())
	return r
}

func must(t *testing.T, why api.Errno) {
	t.Helper()
	if why != api.OK {
		t.Fatal(why)
	}
}

// at is an input.
func at(addr string, v api.Value) api.Input { return api.Input{Addr: addr, Value: v} }

// entry is an entry that can be.
func entry(t *testing.T, r *sched.Resource, advance int, inputs ...api.Input) api.Report {
	t.Helper()
	report, why := r.Entry(advance, inputs)
	must(t, why)
	return report
}

// ran is the names of those that ran in an entry.
func ran(t *testing.T, r *sched.Resource, advance int, inputs ...api.Input) string {
	t.Helper()
	return strings.Join(entry(t, r, advance, inputs...).Ran, " ")
}

// has checks what a cell has.
func has(t *testing.T, r *sched.Resource, cell int, want api.Value) {
	t.Helper()
	if got := r.Cells()[cell]; got != want {
		t.Error(cell, got, "not", want)
	}
}

// shows checks the committed outputs.
func shows(t *testing.T, r *sched.Resource, out bool, sum int) {
	t.Helper()
	want := []api.Input{at("%QX0.0", value.Bool(out)), at("%QW1", number(sum))}
	if got := r.Outputs(); !slices.Equal(got, want) {
		t.Error(got, "not", want)
	}
}

// state is all that a resource tells.
type state struct {
	now, mode int
	cells     []api.Value
	outputs   []api.Input
}

// stateOf is in memory of its own, whatever the resource's answers are in.
func stateOf(r *sched.Resource) state {
	return state{r.Now(), r.Mode(), slices.Clone(r.Cells()), slices.Clone(r.Outputs())}
}

func (a state) same(b state) bool {
	return a.now == b.now && a.mode == b.mode && slices.Equal(a.cells, b.cells) && slices.Equal(a.outputs, b.outputs)
}

func sameReport(a, b api.Report) bool {
	return slices.Equal(a.Ran, b.Ran) && slices.Equal(a.Outputs, b.Outputs) && a.Mode == b.Mode && a.Fault == b.Fault && a.In == b.In &&
		slices.Equal(a.Over, b.Over) && a.Steps == b.Steps
}

// pick is one of several things, by chance.
func pick[T any](r *rand.Rand, l ...T) T { return l[r.Intn(len(l))] }
