package watch_test

import (
	"math/rand"
	"slices"
	"strings"
	"testing"

	"relay/api"
	"relay/listing"
	"relay/sched"
	"relay/value"
	"relay/watch"
)

// The cells of the images of most tests.
const (
	cellIn     = iota // %IX0.0
	cellWord          // %IW1
	cellOut           // %QX0.0
	cellSum           // %QW1
	cellMemory        // %MW1
	cellKept          // INT, kept
	cellText          // STRING of 5 bytes, kept
	cellLevel         // INT from 0 to 100, kept
	cellReal          // LREAL, kept
	cellPlain         // INT
	cellRef           // a reference
	cellEvent         // BOOL
	numCells
)

func whole(k api.Kind, n int) api.Value { return api.Value{Kind: k, Bits: uint64(n)} }

func number(n int) api.Value { return whole(api.KInt, n) }

func text(s string) api.Value { return api.Value{Kind: api.KString, Text: s} }

var yes, no = value.Bool(true), value.Bool(false)

// someCells is such cells.
func someCells() []api.Cell {
	return []api.Cell{
		cellIn:     {Kind: api.KBool, Init: no, Dir: 1, Addr: "%IX0.0"},
		cellWord:   {Kind: api.KInt, Init: number(7), Dir: 1, Addr: "%IW1"},
		cellOut:    {Kind: api.KBool, Init: yes, Dir: 2, Addr: "%QX0.0"},
		cellSum:    {Kind: api.KInt, Init: number(-1), Dir: 2, Addr: "%QW1"},
		cellMemory: {Kind: api.KInt, Init: number(3), Addr: "%MW1"},
		cellKept:   {Kind: api.KInt, Init: number(100), Keep: true},
		cellText:   {Kind: api.KString, Max: 5, Init: text("ab"), Keep: true},
		cellLevel:  {Kind: api.KInt, Sub: true, Hi: 100, Init: number(50), Keep: true},
		cellReal:   {Kind: api.KLreal, Init: value.Lreal(0.5), Keep: true},
		cellPlain:  {Kind: api.KInt, Init: number(200)},
		cellRef:    {Kind: api.KRef, Init: whole(api.KRef, 0)},
		cellEvent:  {Kind: api.KBool, Init: no},
	}
}

// Programs of most tests; their numbers are those of an image's codes.
const (
	countsSum  = iota // one more in the sum
	countsKept        // one more in the kept cell
	sendsIn           // the output is the input
	sendsWord         // the sum is the word
	copiesSum         // the plain cell is the sum
	breaks            // the sum and the kept cell are 5, then FaultZero
	breaksOnIn        // that, if the input is TRUE
	strays            // the level is 101, beyond its bounds
	refers            // the reference is to the sum
	writes            // the text is another one
	numCodes
)

func texts() []string {
	return []string{
		countsSum:  "load B2 C3; const A1 INT#1; do A2 C1 add; store A2 B2 C3; return",
		countsKept: "load B2 C5; const A1 INT#1; do A2 C1 add; store A2 B2 C5; return",
		sendsIn:    "load B2 C0; store B2 C2; return",
		sendsWord:  "load B2 C1; store B2 C3; return",
		copiesSum:  "load B2 C3; store B2 C9; return",
		breaks:     "const INT#5; store B2 C3; store B2 C5; fault A2; return",
		breaksOnIn: "load B2 C0; unless B6; const INT#5; store B2 C3; store B2 C5; fault A2; return",
		strays:     "const INT#101; store B2 C7; return",
		refers:     "ref B2 C3; store B2 C10; return",
		writes:     "const STRING'new; store B2 C6; return",
	}
}

// codes is the codes of listings.
func codes(t *testing.T, texts ...string) []api.Flat {
	t.Helper()
	var l []api.Flat
	for _, text := range texts {
		f, is := listing.Read(text)
		if !is {
			t.Fatal(text)
		}
		f.Name, f.What, f.Base, f.Regs = "P", api.PouProgram, -1, api.MaxRegs
		l = append(l, f)
	}
	return l
}

// task is a task of programs, without a trigger, of the bound 100.
func task(name string, interval, priority int, programs ...int) api.Job {
	return api.Job{Name: name, Interval: interval, Single: -1, Priority: priority, Bound: 100, Codes: programs, Bases: make([]int, len(programs))}
}

// onRise is a task that has a trigger.
func onRise(j api.Job, cell int) api.Job {
	j.Single = cell
	return j
}

// imageOf is an image of such cells and programs, and of tasks.
func imageOf(t *testing.T, jobs ...api.Job) api.Image {
	t.Helper()
	return api.Image{Name: "M", Cells: someCells(), Codes: codes(t, texts()...), Jobs: jobs}
}

// usual is an image whose tasks write most cells, and stop by a fault where the input is TRUE.
func usual(t *testing.T) api.Image {
	t.Helper()
	return imageOf(t, task("A", 10, 1, countsSum, countsKept, sendsIn), task("B", 30, 2, copiesSum, writes), onRise(task("C", 0, 3, breaks), cellEvent))
}

// panelOf is a panel over an image.
func panelOf(t *testing.T, m api.Image) *watch.Panel {
	t.Helper()
	p, why := watch.New(m)
	if why != api.OK || p == nil {
		t.Fatal(why)
	}
	return p
}

// started is a panel over an image of tasks that has been started.
func started(t *testing.T, jobs ...api.Job) *watch.Panel {
	t.Helper()
	p := panelOf(t, imageOf(t, jobs...))
	must(t, p.Start())
	return p
}

// inMode is a panel over the usual image, in a mode.
func inMode(t *testing.T, mode int) *watch.Panel {
	t.Helper()
	p := panelOf(t, usual(t))
	must(t, p.Start())
	entry(t, p, 25)
	switch mode {
	case api.ModeStop:
		must(t, p.Stop())
	case api.ModeFault:
		must(t, p.Force(cellEvent, yes))
		entry(t, p, 0)
		must(t, p.Free(cellEvent))
	}
	if report := entry(t, p, 0); report.Mode != mode {
		t.Fatal(report)
	}
	return p
}

func modes() []int { return []int{api.ModeStop, api.ModeRun, api.ModeFault} }

func must(t *testing.T, why api.Errno) {
	t.Helper()
	if why != api.OK {
		t.Fatal(why)
	}
}

func refuses(t *testing.T, why, want api.Errno) {
	t.Helper()
	if why != want {
		t.Error(why, "not", want)
	}
}

// at is an input.
func at(addr string, v api.Value) api.Input { return api.Input{Addr: addr, Value: v} }

// enters is what has entries: panels, pairs, resources.
type enters interface {
	Entry(advance int, inputs []api.Input) (api.Report, api.Errno)
}

// entry is an entry that can be.
func entry(t *testing.T, x enters, advance int, inputs ...api.Input) api.Report {
	t.Helper()
	report, why := x.Entry(advance, inputs)
	must(t, why)
	return report
}

// cellsOf is what all cells have.
func cellsOf(t *testing.T, p *watch.Panel) []api.Value {
	t.Helper()
	var all []int
	for i := range numCells {
		all = append(all, i)
	}
	l, why := p.Look(all)
	must(t, why)
	return slices.Clone(l)
}

// has checks what a cell has.
func has(t *testing.T, p *watch.Panel, cell int, want api.Value) {
	t.Helper()
	if l, why := p.Look([]int{cell}); why != api.OK || len(l) != 1 || l[0] != want {
		t.Error(cell, l, why, "not", want)
	}
}

func sameReport(a, b api.Report) bool {
	return slices.Equal(a.Ran, b.Ran) && slices.Equal(a.Outputs, b.Outputs) && a.Mode == b.Mode && a.Fault == b.Fault && a.In == b.In &&
		slices.Equal(a.Over, b.Over) && a.Steps == b.Steps
}

// resourceOf is a resource over an image.
func resourceOf(t *testing.T, m api.Image) *sched.Resource {
	t.Helper()
	r, why := sched.New(m)
	must(t, why)
	return r
}

// numbered is an image of so many INT cells, the first of which are kept.
func numbered(cells, kept int) api.Image {
	m := api.Image{Name: "M"}
	for i := range cells {
		m.Cells = append(m.Cells, api.Cell{Kind: api.KInt, Init: number(i), Keep: i < kept})
	}
	return m
}

// ofEachKind is an image with a cell of each kind that has values, all of them kept.
func ofEachKind() api.Image {
	m := api.Image{Name: "M"}
	for k := api.KBool; k <= api.KString; k++ {
		m.Cells = append(m.Cells, api.Cell{Kind: k, Init: value.Zero(k), Keep: true})
	}
	return m
}

// someOf is a value of a kind that is not its zero.
func someOf(k api.Kind) api.Value {
	switch k {
	case api.KLreal:
		return value.Lreal(-0.5)
	case api.KString:
		return text("x")
	case api.KDate:
		return whole(k, 86400000000000)
	}
	return whole(k, 1)
}

// long is a text of so many bytes.
func long(n int) api.Value { return text(strings.Repeat("x", n)) }

// pick is one of several things, by chance.
func pick[T any](r *rand.Rand, l ...T) T { return l[r.Intn(len(l))] }
