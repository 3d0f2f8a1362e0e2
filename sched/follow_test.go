package sched_test

import (
	"math/rand"
	"slices"
	"testing"

	"relay/api"
	"relay/image"
	"relay/listing"
	"relay/sched"
	"relay/value"
)

// P23.5: without tasks, entries of a and b are one entry of both, with the inputs of both.
func TestPieceByPiece(t *testing.T) {
	r := rand.New(rand.NewSource(2))
	for range 2000 {
		m := imageOf(t)
		parts, once := made(t, m), made(t, m)
		if r.Intn(2) == 0 {
			must(t, parts.Start())
			must(t, once.Start())
		}
		sum, inputs := 0, []api.Input{}
		for range r.Intn(5) {
			a, l := r.Intn(api.MaxAdvance/8), []api.Input{}
			for range r.Intn(3) {
				l = append(l, pick(r, at("%IW1", number(r.Intn(9))), at("%IX0.0", value.Bool(r.Intn(2) == 0))))
			}
			entry(t, parts, a, l...)
			sum, inputs = sum+a, append(inputs, l...)
		}
		entry(t, once, sum, inputs...)
		if !stateOf(parts).same(stateOf(once)) {
			t.Fatal(stateOf(parts), stateOf(once))
		}
	}
}

// each starts resources by chance, gives them entries, and hands on each with what was ahead of it and what it came to.
func each(t *testing.T, seed int64, to func(m api.Image, r *sched.Resource, ahead state, report api.Report)) {
	t.Helper()
	r := rand.New(rand.NewSource(seed))
	for range 3000 {
		m := someImage(t, r)
		x := made(t, m)
		entry(t, x, r.Intn(20))
		must(t, x.Start())
		for range 15 {
			ahead := stateOf(x)
			report, why := x.Entry(pick(r, 0, 1, 3, 10, r.Intn(50)), someInputs(r))
			if why == api.OK {
				to(m, x, ahead, report)
			}
		}
	}
}

// job is the task of a name.
func job(m api.Image, name string) (int, api.Job) {
	i := slices.IndexFunc(m.Jobs, func(j api.Job) bool { return j.Name == name })
	return i, m.Jobs[i]
}

// P23.6: no task runs twice in an entry; priorities rise. P23.8: Steps is at most the sum of the bounds of those that ran.
func TestOnceAnEntry(t *testing.T) {
	several, full := 0, 0
	each(t, 3, func(m api.Image, _ *sched.Resource, _ state, report api.Report) {
		most, last := 0, 0
		for i, name := range report.Ran {
			_, j := job(m, name)
			if slices.Contains(report.Ran[:i], name) || j.Priority < last {
				t.Fatal(m.Jobs, report)
			}
			most, last = most+j.Bound, j.Priority
		}
		if report.Steps > most {
			t.Fatal(m.Jobs, report)
		}
		if len(report.Ran) > 1 {
			several++
		}
		if report.Steps == most && most > 0 {
			full++
		}
	})
	if several < 1000 || full < 10 {
		t.Error(several, full)
	}
}

// P23.7: with a fault, the outputs are those of the last activation without; where it is the entry's first one, they are as they were ahead.
func TestCommitsNothing(t *testing.T) {
	first, later := 0, 0
	each(t, 4, func(m api.Image, r *sched.Resource, ahead state, report api.Report) {
		if report.Fault == 0 {
			return
		}
		if report.In != report.Ran[len(report.Ran)-1] || report.Mode != api.ModeFault {
			t.Fatal(report)
		}
		want := ahead.outputs
		if len(report.Ran) > 1 {
			later++
			// All that ran ahead of it was committed, and with it all cells that are there now.
			want = nil
			for i, c := range m.Cells {
				if c.Dir == 2 {
					want = append(want, at(c.Addr, r.Cells()[i]))
				}
			}
		} else {
			first++
		}
		if !slices.Equal(report.Outputs, want) {
			t.Fatal(report, want)
		}
	})
	if first < 20 || later < 20 {
		t.Error(first, later)
	}
}

// P23.9: a cyclic task runs in an entry just if a multiple passed; overruns and runs together are how many passed since the start.
func TestMissed(t *testing.T) {
	r := rand.New(rand.NewSource(5))
	for range 3000 {
		var jobs []api.Job
		for i := range 1 + r.Intn(4) {
			jobs = append(jobs, task(string(rune('A'+i)), 1+r.Intn(20), r.Intn(3), countsKept))
		}
		x := made(t, imageOf(t, jobs...))
		begin := r.Intn(40)
		entry(t, x, begin)
		must(t, x.Start())
		runs := make([]int, len(jobs))
		for k := range 10 {
			ahead := x.Now()
			if k == 0 {
				ahead--
			}
			report := entry(t, x, r.Intn(30))
			for i, j := range jobs {
				passed := 0
				for n := ahead + 1; n <= x.Now(); n++ {
					if n%j.Interval == 0 {
						passed++
					}
				}
				if is := slices.Contains(report.Ran, j.Name); is != (passed > 0) {
					t.Fatal(j, ahead, x.Now(), report)
				} else if is {
					runs[i]++
				}
				all := x.Now()/j.Interval - (begin+j.Interval-1)/j.Interval + 1
				if report.Over[i]+runs[i] != all {
					t.Fatal(j, begin, x.Now(), report, runs)
				}
			}
		}
	}
}

// what is a code by chance, of instructions that may be; most of them do something.
func what(r *rand.Rand, cells, codes int) api.Flat {
	f := api.Flat{Name: "F", What: pick(r, api.PouFunction, api.PouBlock, api.PouProgram, api.PouProgram), Cells: r.Intn(cells + 1), Base: -1, Regs: 4, Slots: 2}
	n := 1 + r.Intn(12)
	for len(f.Ops) < n-1 {
		code := 1 + r.Intn(api.NumIr-1)
		o := api.Op{Code: code, A: r.Intn(4)}
		area, cell := 1+r.Intn(3), r.Intn(cells+3)
		switch code {
		case api.IrConst:
			o.Value = pick(r, value.Bool(r.Intn(2) == 0), number(r.Intn(9)), whole(api.KRef, 0))
		case api.IrMove, api.IrSpill, api.IrFill:
			o.B = r.Intn(2)
		case api.IrLoad, api.IrStore, api.IrRef:
			o.B, o.C = area, cell
		case api.IrLoadX, api.IrStoreX, api.IrRefX:
			o.B, o.C, o.D, o.Hi = area, cell, r.Intn(4), r.Intn(5)
		case api.IrDo:
			o.B, o.C, o.D = r.Intn(4), r.Intn(4), 1+r.Intn(14)
		case api.IrTurn:
			o.B, o.D = r.Intn(4), 15+r.Intn(2)
		case api.IrConv:
			o.B, o.D = r.Intn(4), 1+r.Intn(19)
		case api.IrStd:
			o.C, o.D = r.Intn(4), r.Intn(90)
		case api.IrJump:
			o.A, o.B = 0, r.Intn(n)
		case api.IrUnless:
			o.B = r.Intn(n)
		case api.IrCall:
			o.A, o.B, o.C, o.D = 0, r.Intn(codes), area, cell
		case api.IrBlock:
			o.A, o.B, o.C, o.D = 0, 1+r.Intn(10), area, cell
		case api.IrFault:
			o.A = 1 + r.Intn(10)
		case api.IrReturn:
			o.A = 0
		}
		f.Ops = append(f.Ops, o)
	}
	f.Ops = append(f.Ops, pick(r, api.Op{Code: api.IrReturn}, api.Op{Code: api.IrReturn}, api.Op{Code: api.IrJump, B: r.Intn(n)}))
	return f
}

// ofWhomever is an image by chance that no compiler made.
func ofWhomever(t *testing.T, r *rand.Rand) api.Image {
	t.Helper()
	m := imageOf(t)
	m.Cells = append(m.Cells, api.Cell{Kind: api.KRef, Init: whole(api.KRef, 0)}, api.Cell{Kind: api.KInt, Sub: true, Hi: 3, Init: number(1)})
	m.Codes = nil
	n := 1 + r.Intn(4)
	for range n {
		m.Codes = append(m.Codes, what(r, len(m.Cells), n))
	}
	for i := range 1 + r.Intn(3) {
		j := within(task(string(rune('A'+i)), 1+r.Intn(9), r.Intn(3)), r.Intn(200))
		for k, f := range m.Codes {
			if f.What == api.PouProgram {
				j.Codes, j.Bases = append(j.Codes, k), append(j.Bases, r.Intn(len(m.Cells)-f.Cells+1))
			}
		}
		m.Jobs = append(m.Jobs, j)
	}
	return m
}

// P20.9, P4: an image that may be is taken, and runs: each entry ends in a mode, with as many cells, of their kinds.
func TestImagesOfWhomever(t *testing.T) {
	r := rand.New(rand.NewSource(6))
	faults, long := map[int]int{}, 0
	for range 20000 {
		m := ofWhomever(t, r)
		if number, place, why := image.Check(m); why != api.OK {
			t.Fatal(listing.Text(m.Codes[min(number, len(m.Codes)-1)]), number, place, why)
		}
		x := made(t, m)
		must(t, x.Start())
		for range 4 {
			report := entry(t, x, r.Intn(20), at("%IW1", number(r.Intn(3))))
			if report.Mode != x.Mode() || report.Mode != api.ModeRun && report.Mode != api.ModeFault || len(report.Outputs) != 2 {
				t.Fatal(report)
			}
			faults[report.Fault]++
			if report.Steps > 20 {
				long++
			}
			cells := x.Cells()
			if len(cells) != len(m.Cells) {
				t.Fatal(cells)
			}
			for i, v := range cells {
				if v.Kind != m.Cells[i].Kind {
					t.Fatal(i, v)
				}
			}
		}
	}
	for fault := range api.FaultSteps + 1 {
		if faults[fault] < 5 {
			t.Error(fault, faults)
		}
	}
	if long < 100 {
		t.Error(long)
	}
}
