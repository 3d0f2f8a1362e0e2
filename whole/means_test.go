package whole

import (
	"math/rand"
	"slices"
	"testing"

	"relay/api"
	"relay/samples"
	"relay/sched"
	"relay/tasks"
	"relay/value"
)

// side is one of two resources that are handed the same.
type side interface {
	Start() api.Errno
	Stop() api.Errno
	Reset(warm bool) api.Errno
	Entry(advance int, inputs []api.Input) (api.Report, api.Errno)
	Poke(cell int, v api.Value) api.Errno
	Now() int
	Mode() int
	Cells() []api.Value
	Outputs() []api.Input
}

func (x *plant) sides(t *testing.T) []side {
	t.Helper()
	return []side{x.resource(t), x.meant(), x.resource(t)}
}

// checkAlike checks that sides have the same.
func checkAlike(t *testing.T, x *plant, l []side) {
	t.Helper()
	a := l[0]
	for _, b := range l[1:] {
		if a.Now() != b.Now() || a.Mode() != b.Mode() || !slices.Equal(a.Cells(), b.Cells()) || !slices.Equal(a.Outputs(), b.Outputs()) {
			t.Fatalf("%q: %v %v %v, not %v %v %v", x.sources, a.Mode(), a.Cells(), a.Outputs(), b.Mode(), b.Cells(), b.Outputs())
		}
	}
}

var (
	_ side = (*sched.Resource)(nil)
	_ side = (*tasks.Resource)(nil)
)

// P1, P7: behind each entry the tasks that ran, the outputs, all cells, the mode and the fault are those of the meaning, whatever is called in between. P3: no activation takes more than its bound. P10: a standby has the same.
func TestCompiledAsItMeans(t *testing.T) {
	faults, entries := map[int]int{}, 0
	each(t, 1000, func(r *rand.Rand, x *plant) {
		l := x.sides(t)
		for _, e := range samples.Script(r.Intn, x.image.Cells, 12) {
			call := someCall(r, x, e)
			var first api.Report
			var why api.Errno
			for i, s := range l {
				report, got := call(s)
				if i == 0 {
					first, why = report, got
				} else if !same(report, first) || got != why {
					t.Fatalf("%q: %v %v, not %v %v", x.sources, report, got, first, why)
				}
			}
			checkAlike(t, x, l)
			faults[first.Fault]++
			entries += len(first.Ran)
			most := 0
			for _, j := range x.image.Jobs {
				if slices.Contains(first.Ran, j.Name) {
					most += j.Bound
				}
			}
			if first.Steps > most {
				t.Fatalf("%q: %v, %d", x.sources, first, most)
			}
		}
	})
	for fault := range api.FaultConvert + 1 {
		if faults[fault] == 0 {
			t.Error(fault, faults)
		}
	}
	if entries < 1000 {
		t.Error(entries)
	}
}

// someCall is a call by chance: mostly an entry, mostly of what runs.
func someCall(r *rand.Rand, x *plant, e api.Entry) func(s side) (api.Report, api.Errno) {
	n, warm, cell := r.Intn(12), r.Intn(2) == 0, r.Intn(len(x.image.Cells))
	v := number(x.image.Cells[cell].Kind, r.Intn(5))
	return func(s side) (api.Report, api.Errno) {
		switch {
		case s.Mode() == api.ModeFault:
			return api.Report{}, s.Reset(warm)
		case s.Mode() == api.ModeStop && n < 9:
			return api.Report{}, s.Start()
		case n == 0:
			return api.Report{}, s.Stop()
		case n == 1:
			return api.Report{}, s.Poke(cell, v)
		}
		return s.Entry(e.Advance, e.Inputs)
	}
}

// P10: a warm start keeps the cells that are kept, and no others; a cold one keeps none.
func TestKeptOverAStart(t *testing.T) {
	kept, others := 0, 0
	each(t, 300, func(r *rand.Rand, x *plant) {
		s := x.resource(t)
		s.Start()
		for _, e := range samples.Script(r.Intn, x.image.Cells, 6) {
			s.Entry(e.Advance, e.Inputs)
		}
		s.Stop()
		ahead := s.Cells()
		s.Reset(true)
		for i, c := range x.image.Cells {
			want := c.Init
			if c.Keep {
				want = ahead[i]
			}
			if ahead[i] != c.Init && c.Keep {
				kept++
			} else if ahead[i] != c.Init {
				others++
			}
			if s.Cells()[i] != want {
				t.Fatalf("%q: %d %v %v", x.sources, i, s.Cells()[i], want)
			}
		}
		s.Reset(false)
		for i, c := range x.image.Cells {
			if s.Cells()[i] != c.Init {
				t.Fatal(i, s.Cells()[i], c.Init)
			}
		}
	})
	if kept < 100 || others < 100 {
		t.Error(kept, others)
	}
}

// What is kept is what is declared so: the globals, and what stands in an instance that is kept.
func TestRetained(t *testing.T) {
	x := newPlant(t, "FUNCTION_BLOCK b VAR n : INT; END_VAR n := n + 1; END_FUNCTION_BLOCK "+
		"PROGRAM p VAR RETAIN k : INT; i : b; END_VAR VAR n : INT; j : b; END_VAR VAR_EXTERNAL o, u : INT; END_VAR i(); j(); k := k + 1; n := n + 1; o := o + 1; u := u + 1; END_PROGRAM",
		"CONFIGURATION c VAR_GLOBAL RETAIN o AT %QW0 : INT; END_VAR VAR_GLOBAL u AT %QW1 : INT := 10; END_VAR RESOURCE r ON plc TASK t (INTERVAL := T#10ms, PRIORITY := 1); PROGRAM one WITH t : p; END_RESOURCE END_CONFIGURATION")
	s := x.resource(t)
	run := func(n int) {
		s.Start()
		for range n {
			s.Entry(tenMs, nil)
		}
		s.Stop()
	}
	check := func(want ...int) {
		t.Helper()
		for i, v := range s.Cells() {
			if v != number(api.KInt, want[i]) {
				t.Error(i, v, want)
			}
		}
	}
	run(3)
	check(3, 13, 3, 3, 3, 3)
	s.Reset(true)
	check(3, 10, 3, 3, 0, 0)
	if o := s.Outputs(); o[0].Value != number(api.KInt, 3) || o[1].Value != number(api.KInt, 10) {
		t.Error(o)
	}
	run(2)
	check(5, 12, 5, 5, 2, 2)
	s.Reset(false)
	check(0, 10, 0, 0, 0, 0)
}

// P8: arithmetic of LREAL is that of double precision, each operation rounded once, with one NaN; in the machine and in the meaning.
func TestFloats(t *testing.T) {
	x := newPlant(t, "PROGRAM p VAR a, b, sum, less, times, over, both, neg : LREAL; END_VAR sum := a + b; less := a - b; times := a * b; over := a / b; both := a * b + a; neg := -a; END_PROGRAM", config(""))
	l := x.sides(t)
	for _, s := range l {
		s.Start()
	}
	r := rand.New(rand.NewSource(1))
	for range 3000 {
		a, b := someFloat(r), someFloat(r)
		product := a * b
		want := []float64{a, b, a + b, a - b, product, a / b, product + a, -a}
		for _, s := range l {
			s.Poke(0, value.Lreal(a))
			s.Poke(1, value.Lreal(b))
			if report, why := s.Entry(tenMs, nil); why != api.OK || report.Fault != 0 {
				t.Fatal(report, why)
			}
			for i, f := range want {
				if got := s.Cells()[i]; got != value.Lreal(f) {
					t.Fatal(a, b, i, got, f)
				}
			}
		}
	}
}

// someFloat is a float by chance, of all sizes, and those at the edges.
func someFloat(r *rand.Rand) float64 {
	v := api.Value{Kind: api.KLreal, Bits: pick(r, r.Uint64(), r.Uint64(), 0, 1<<63, 1, 0x7ff0000000000000, 0xfff0000000000000, 0x7fefffffffffffff, 0x3ff0000000000000, 0x0010000000000000)}
	if f, is := value.Float(v); is {
		return f
	}
	nan, _ := value.Float(api.Value{Kind: api.KLreal, Bits: 0x7ff8000000000001})
	return nan
}
