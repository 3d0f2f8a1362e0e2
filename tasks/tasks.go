// Package tasks is what a resource has and does, whatever runs its tasks' programs: those of layer sched run as instructions, those that plc asks for what they mean are done as typed trees.
package tasks

import (
	"slices"

	"relay/api"
	"relay/value"
	"relay/vm"
)

// Run runs a code from a first cell on, at a time, over the values of all cells, which stay as they are, for so many steps at most: the values behind it, how many steps it took, which fault stopped it.
type Run func(code, base, now int, mem []api.Value, most int) ([]api.Value, int, int)

// Resource is cells, a time, and tasks that run by turns.
type Resource struct {
	cells   []api.Cell
	run     Run
	inputs  map[string]int // by address
	mem     []api.Value
	outputs []api.Input // as they were committed
	tasks   []task
	now     int
	mode    int
	isFirst bool // there was no entry behind the last start
}

// New is one that has stopped, at time 0, with its cells' initial values.
func New(cells []api.Cell, jobs []api.Job, run Run) *Resource {
	r := &Resource{cells: slices.Clone(cells), run: run, inputs: map[string]int{}, mem: vm.Start(cells), mode: api.ModeStop}
	for i, c := range cells {
		if _, is := r.inputs[c.Addr]; c.Dir == dirInput && !is {
			r.inputs[c.Addr] = i
		}
	}
	for _, j := range jobs {
		j.Codes, j.Bases = slices.Clone(j.Codes), slices.Clone(j.Bases)
		r.tasks = append(r.tasks, task{Job: j})
	}
	r.commit()
	return r
}

// Which way a cell's value goes.
const (
	dirInput  = 1
	dirOutput = 2
)

// commit lets the outputs have their cells' values.
func (r *Resource) commit() {
	r.outputs = nil
	for i, c := range r.cells {
		if c.Dir == dirOutput {
			r.outputs = append(r.outputs, api.Input{Addr: c.Addr, Value: r.mem[i]})
		}
	}
}

// Start lets it run; its tasks know nothing of what was ahead.
func (r *Resource) Start() api.Errno {
	if r.mode != api.ModeStop {
		return api.ErrState
	}
	r.forget()
	r.mode, r.isFirst = api.ModeRun, true
	return api.OK
}

func (r *Resource) forget() {
	for i := range r.tasks {
		r.tasks[i] = task{Job: r.tasks[i].Job}
	}
}

// Stop stops it.
func (r *Resource) Stop() api.Errno {
	if r.mode != api.ModeRun {
		return api.ErrState
	}
	r.mode = api.ModeStop
	return api.OK
}

// Reset makes all cells initial (of a warm start: all but those that are kept).
func (r *Resource) Reset(warm bool) api.Errno {
	if r.mode == api.ModeRun {
		return api.ErrState
	}
	ahead := r.mem
	r.mem = vm.Start(r.cells)
	for i, c := range r.cells {
		if warm && c.Keep {
			r.mem[i] = ahead[i]
		}
	}
	r.commit()
	r.forget()
	r.mode = api.ModeStop
	return api.OK
}

// Now, Mode, Cells, Outputs: what it has.
func (r *Resource) Now() int             { return r.now }
func (r *Resource) Mode() int            { return r.mode }
func (r *Resource) Cells() []api.Value   { return slices.Clone(r.mem) }
func (r *Resource) Outputs() []api.Input { return slices.Clone(r.outputs) }

// Poke puts a value into a cell. No value is for a cell that keeps a reference.
func (r *Resource) Poke(cell int, v api.Value) api.Errno {
	switch {
	case cell < 0 || cell >= len(r.cells):
		return api.ErrArg
	case !r.fits(cell, v):
		return api.ErrInput
	}
	r.mem[cell] = v
	return api.OK
}

// fits tells whether a value is for a cell.
func (r *Resource) fits(cell int, v api.Value) bool {
	c := r.cells[cell]
	return value.Fits(api.Type{Kind: c.Kind, Sub: c.Sub, Lo: c.Lo, Hi: c.Hi, Max: c.Max}, v) == api.FaultNone
}
