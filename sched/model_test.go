package sched_test

import (
	"math/rand"
	"slices"
	"testing"

	"relay/api"
	"relay/value"
	"relay/vm"
)

// model is a resource as the chapter's sentences have it: times pass one by one here, and those that wait stand in a list.
type model struct {
	m       api.Image
	mem     []api.Value
	outputs []api.Input
	now     int
	mode    int
	first   bool
	over    map[string]int
	last    map[string]bool
	waiting []waiting
}

type waiting struct{ job, since int }

func newModel(m api.Image) *model {
	x := &model{m: m, mem: vm.Start(m.Cells), mode: api.ModeStop}
	x.commit()
	x.begin()
	return x
}

// begin forgets what tasks were.
func (x *model) begin() {
	x.over, x.last, x.waiting = map[string]int{}, map[string]bool{}, nil
}

func (x *model) commit() {
	x.outputs = nil
	for i, c := range x.m.Cells {
		if c.Dir == 2 {
			x.outputs = append(x.outputs, api.Input{Addr: c.Addr, Value: x.mem[i]})
		}
	}
}

func (x *model) start() api.Errno {
	if x.mode == api.ModeRun || x.mode == api.ModeFault {
		return api.ErrState
	}
	x.begin()
	x.mode, x.first = api.ModeRun, true
	return api.OK
}

func (x *model) stop() api.Errno {
	if x.mode != api.ModeRun {
		return api.ErrState
	}
	x.mode = api.ModeStop
	return api.OK
}

func (x *model) reset(warm bool) api.Errno {
	if x.mode == api.ModeRun {
		return api.ErrState
	}
	for i, v := range vm.Start(x.m.Cells) {
		if !warm || !x.m.Cells[i].Keep {
			x.mem[i] = v
		}
	}
	x.commit()
	x.begin()
	x.mode = api.ModeStop
	return api.OK
}

func fits(c api.Cell, v api.Value) bool {
	return value.Fits(api.Type{Kind: c.Kind, Sub: c.Sub, Lo: c.Lo, Hi: c.Hi, Max: c.Max}, v) == 0
}

func (x *model) poke(cell int, v api.Value) api.Errno {
	if cell < 0 || cell >= len(x.mem) {
		return api.ErrArg
	}
	if !fits(x.m.Cells[cell], v) {
		return api.ErrInput
	}
	x.mem[cell] = v
	return api.OK
}

// input is the number of the cell of an input.
func (x *model) input(addr string) int {
	return slices.IndexFunc(x.m.Cells, func(c api.Cell) bool { return c.Dir == 1 && c.Addr == addr })
}

func (x *model) entry(advance int, inputs []api.Input) (api.Report, api.Errno) {
	if advance < 0 || advance > api.MaxAdvance || x.now+advance > api.MaxNow {
		return api.Report{}, api.ErrTime
	}
	for _, in := range inputs {
		if c := x.input(in.Addr); c < 0 || !fits(x.m.Cells[c], in.Value) {
			return api.Report{}, api.ErrInput
		}
	}
	ahead := x.now
	x.now += advance
	for _, in := range inputs {
		x.mem[x.input(in.Addr)] = in.Value
	}
	report := api.Report{}
	if x.mode == api.ModeRun {
		for i := range x.m.Jobs {
			x.ask(i, ahead)
		}
		x.first = false
		for len(x.waiting) > 0 {
			x.turn(&report)
		}
	}
	report.Outputs, report.Mode = slices.Clone(x.outputs), x.mode
	for _, j := range x.m.Jobs {
		report.Over = append(report.Over, x.over[j.Name])
	}
	return report, api.OK
}

// ask asks whether a task is due.
func (x *model) ask(i, ahead int) {
	j := x.m.Jobs[i]
	from := ahead + 1
	if x.first {
		from = ahead
	}
	for at := from; j.Interval > 0 && at <= x.now; at++ {
		if at%j.Interval == 0 {
			x.wait(i, at)
		}
	}
	if j.Single >= 0 {
		is := x.mem[j.Single].Bits == 1
		if is && !x.last[j.Name] {
			x.wait(i, x.now)
		}
		x.last[j.Name] = is
	}
}

func (x *model) wait(i, since int) {
	if slices.ContainsFunc(x.waiting, func(w waiting) bool { return w.job == i }) {
		x.over[x.m.Jobs[i].Name]++
		return
	}
	x.waiting = append(x.waiting, waiting{i, since})
}

// turn lets the one run whose turn it is.
func (x *model) turn(report *api.Report) {
	slices.SortFunc(x.waiting, func(a, b waiting) int {
		p, q := x.m.Jobs[a.job].Priority, x.m.Jobs[b.job].Priority
		switch {
		case p != q:
			return p - q
		case a.since != b.since:
			return a.since - b.since
		}
		return a.job - b.job
	})
	j := x.m.Jobs[x.waiting[0].job]
	x.waiting = x.waiting[1:]
	report.Ran = append(report.Ran, j.Name)
	mem, left := slices.Clone(x.mem), j.Bound
	for i, code := range j.Codes {
		after, steps, fault := vm.Run(x.m.Codes, code, j.Bases[i], x.now, x.m.Cells, mem, left)
		report.Steps += steps
		if fault != 0 {
			report.Fault, report.In = fault, j.Name
			x.mode, x.waiting = api.ModeFault, nil
			return
		}
		mem, left = after, left-steps
	}
	x.mem = mem
	x.commit()
}

// someJob is a task by chance.
func someJob(r *rand.Rand, i int) api.Job {
	j := task(string(rune('A'+i)), pick(r, 0, 1, 3, 4, 7, 10, 10, 1000), r.Intn(3))
	j.Single = pick(r, -1, -1, cellIn, cellTrigger, cellOther, cellOut)
	j.Bound = pick(r, 100, 100, 100, 100, 100, 100, 100, r.Intn(20))
	for range r.Intn(4) {
		program := pick(r, countsSum, countsKept, countsHere, sendsIn, sendsWord, setsTrigger, clears, doesNothing)
		if r.Intn(60) == 0 {
			program = pick(r, breaks, goesOn)
		}
		j.Codes, j.Bases = append(j.Codes, program), append(j.Bases, pick(r, cellSum, cellKept, cellPlain))
	}
	return j
}

// someImage is an image by chance.
func someImage(t *testing.T, r *rand.Rand) api.Image {
	t.Helper()
	m := imageOf(t)
	m.Cells[cellSum].Keep, m.Cells[cellWord].Keep = r.Intn(3) == 0, r.Intn(3) == 0
	for i := range r.Intn(5) {
		m.Jobs = append(m.Jobs, someJob(r, i))
	}
	return m
}

// someInputs is inputs by chance; now and then one can't be.
func someInputs(r *rand.Rand) []api.Input {
	var l []api.Input
	for range r.Intn(4) {
		switch r.Intn(40) {
		case 0:
			l = append(l, at("%QW1", number(1)))
		case 1:
			l = append(l, at("%IW1", value.Bool(true)))
		case 2, 3, 4, 5, 6, 7, 8, 9:
			l = append(l, at("%IW1", number(r.Intn(9))))
		default:
			l = append(l, at("%IX0.0", value.Bool(r.Intn(2) == 0)))
		}
	}
	return l
}

// Resources do what the chapter's sentences say, whatever is called.
func TestModel(t *testing.T) {
	r := rand.New(rand.NewSource(1))
	ran, over, faults, errors := 0, 0, map[int]int{}, map[api.Errno]int{}
	for range 4000 {
		m := someImage(t, r)
		x, got := newModel(m), made(t, m)
		for range 40 {
			var why, want api.Errno
			switch warm := r.Intn(2) == 0; r.Intn(14) {
			case 0, 1, 2:
				why, want = got.Start(), x.start()
			case 3:
				why, want = got.Stop(), x.stop()
			case 4:
				why, want = got.Reset(warm), x.reset(warm)
			case 5:
				cell, v := r.Intn(numCells+2)-1, pick(r, value.Bool(true), value.Bool(false), number(1))
				why, want = got.Poke(cell, v), x.poke(cell, v)
			default:
				advance, inputs := pick(r, 0, 1, 2, 5, 10, r.Intn(60)-1), someInputs(r)
				a, e := got.Entry(advance, inputs)
				b, f := x.entry(advance, inputs)
				if !sameReport(a, b) {
					t.Fatal(m.Jobs, advance, inputs, a, b)
				}
				why, want = e, f
				ran += len(a.Ran)
				faults[a.Fault]++
				for _, n := range a.Over {
					over += n
				}
			}
			errors[want]++
			if s := (state{x.now, x.mode, x.mem, x.outputs}); why != want || !stateOf(got).same(s) {
				t.Fatal(m.Jobs, why, want, stateOf(got), s)
			}
		}
	}
	if ran < 10000 || over < 10000 || faults[api.FaultZero] < 50 || faults[api.FaultSteps] < 50 {
		t.Error(ran, over, faults)
	}
	for _, why := range []api.Errno{api.OK, api.ErrState, api.ErrTime, api.ErrInput, api.ErrArg} {
		if errors[why] < 100 {
			t.Error(errors)
		}
	}
}
