package tasks

import (
	"slices"

	"relay/api"
	"relay/value"
)

// Entry lets time go on, with inputs: what it came to.
func (r *Resource) Entry(advance int, inputs []api.Input) (api.Report, api.Errno) {
	switch {
	case advance < 0 || advance > api.MaxAdvance || advance > api.MaxNow-r.now:
		return api.Report{}, api.ErrTime
	case !r.takes(inputs):
		return api.Report{}, api.ErrInput
	}
	ahead := r.now
	r.now += advance
	for _, in := range inputs {
		r.mem[r.inputs[in.Addr]] = in.Value
	}
	var report api.Report
	if r.mode == api.ModeRun {
		r.call(ahead)
		r.work(&report)
	}
	report.Outputs, report.Mode = slices.Clone(r.outputs), r.mode
	for _, t := range r.tasks {
		report.Over = append(report.Over, t.over)
	}
	return report, api.OK
}

// takes tells whether there are inputs of such addresses, for such values.
func (r *Resource) takes(inputs []api.Input) bool {
	for _, in := range inputs {
		if cell, is := r.inputs[in.Addr]; !is || !r.fits(cell, in.Value) {
			return false
		}
	}
	return true
}

// call lets those tasks wait that are due, behind a time up to now.
func (r *Resource) call(ahead int) {
	for i := range r.tasks {
		t := &r.tasks[i]
		if t.Interval > 0 {
			t.due(t.multiples(ahead, r.now, r.isFirst))
		}
		if t.Single >= 0 {
			t.see(r.mem[t.Single] == value.Bool(true), r.now)
		}
	}
	r.isFirst = false
}

// work lets those that wait run, as long as no fault stops one.
func (r *Resource) work(report *api.Report) {
	for t := r.next(); t != nil; t = r.next() {
		t.waits = false
		report.Ran = append(report.Ran, t.Name)
		steps, fault := r.activate(t)
		report.Steps += steps
		if fault != api.FaultNone {
			report.Fault, report.In = fault, t.Name
			r.fail()
		}
	}
}

// next is the task whose turn it is; nil, if none waits.
func (r *Resource) next() *task {
	var first *task
	for i := range r.tasks {
		if t := &r.tasks[i]; t.waits && (first == nil || t.isAheadOf(first)) {
			first = t
		}
	}
	return first
}

// activate runs a task's programs over a copy of the cells, which counts only if no fault stops one of them: how many steps they took, and the fault.
func (r *Resource) activate(t *task) (int, int) {
	mem, steps := r.mem, 0
	for i, code := range t.Codes {
		after, took, fault := r.run(code, t.Bases[i], r.now, mem, t.Bound-steps)
		steps += took
		if fault != api.FaultNone {
			return steps, fault
		}
		mem = after
	}
	r.mem = mem
	r.commit()
	return steps, api.FaultNone
}

// fail is what becomes of it when a fault has stopped a task.
func (r *Resource) fail() {
	r.mode = api.ModeFault
	for i := range r.tasks {
		r.tasks[i].waits = false
	}
}
