package compiled

import (
	"slices"
	"testing"

	"relay/api"
	"relay/bound"
	"relay/listing"
	"relay/meaning"
	"relay/vm"
)

// unbounded is more steps than any run of a plant takes.
const unbounded = 1 << 40

// moment is an instance that is run over cells at a time, and what that means.
type moment struct {
	instance
	now   int
	mem   []api.Value
	after []api.Value
	fault int
}

// moment is what a run of an instance means.
func (x *plant) moment(i instance, now int, mem []api.Value) moment {
	after, _, fault := meaning.Run(x.codes, i.pou, i.base, now, x.cells, mem, unbounded)
	return moment{i, now, mem, after, fault}
}

// run runs a code of the plant's cells over a moment's.
func (x *plant) run(codes []api.Flat, fn int, m moment, most int) ([]api.Value, int, int) {
	return vm.Run(codes, fn, m.base, m.now, x.cells, m.mem, most)
}

// steps is how many a run of codes takes at a moment. It must come to the cells and the fault that the trees mean (P21.6), with no more steps than are told ahead of it, and no more invocations within one another (P22.5).
func (x *plant) steps(t *testing.T, codes []api.Flat, m moment) int {
	t.Helper()
	after, steps, fault := x.run(codes, m.pou, m, unbounded)
	if most := most(t, codes, m.pou); fault != m.fault || !slices.Equal(after, m.after) || steps > most {
		t.Fatal(x.p.Pous[m.pou].Text, listing.Text(codes[m.pou]), fault, "not", m.fault, steps, most)
	}
	x.checkDepth(t, codes, m, steps)
	return steps
}

// checkDepth puts as many callers around a run as there may be, if it goes no deeper than Depth tells; it comes to the same then. With one more it stops, if it goes so deep.
func (x *plant) checkDepth(t *testing.T, codes []api.Flat, m moment, steps int) {
	t.Helper()
	depth, _, why := bound.Depth(codes, m.pou)
	callers := api.MaxCalls - depth
	around, first := called(codes, m.pou, callers)
	after, all, fault := x.run(around, first, m, unbounded)
	want := steps + callers
	if m.fault == api.FaultNone {
		// Each caller ends, too.
		want += callers
	}
	if why != api.OK || fault != m.fault || !slices.Equal(after, m.after) || all != want {
		t.Fatal(x.p.Pous[m.pou].Text, depth, why, fault, "not", m.fault, all, want)
	}
	around, first = called(codes, m.pou, callers+1)
	if _, _, fault := x.run(around, first, m, unbounded); fault == api.FaultSteps {
		x.deepest++
	}
}

// called is codes, and so many around one of them of which each calls the next one; and the first one's number.
func called(codes []api.Flat, fn, callers int) ([]api.Flat, int) {
	l := slices.Clone(codes)
	for range callers {
		call := api.Op{Code: api.IrCall, B: fn, C: api.AreaThis}
		fn = len(l)
		l = append(l, api.Flat{Cells: l[call.B].Cells, Ops: []api.Op{call, {Code: api.IrReturn}}})
	}
	return l, fn
}
