package watch_test

import (
	"slices"
	"strings"
	"testing"

	"relay/api"
	"relay/value"
)

// forced checks which cells a panel tells as forced.
func forced(t *testing.T, got []api.Force, want ...api.Force) {
	t.Helper()
	if !slices.Equal(got, want) {
		t.Error(got, "not", want)
	}
}

// P26.2: a value of each kind is for a cell of that kind alone; for one that keeps references there is none.
func TestForceOfEachKind(t *testing.T) {
	m := ofEachKind()
	m.Cells = append(m.Cells, api.Cell{Kind: api.KRef, Init: whole(api.KRef, 0)})
	for i, c := range m.Cells {
		p, r := panelOf(t, m), resourceOf(t, m)
		for k := api.KBool; k <= api.KRef; k++ {
			want := api.ErrInput
			if c.Kind == k && k != api.KRef {
				want = api.OK
			}
			why := p.Force(i, someOf(k))
			if why != want || why != r.Poke(i, someOf(k)) {
				t.Error(i, k, why)
			}
		}
		if c.Kind != api.KRef {
			has(t, p, i, someOf(c.Kind))
			forced(t, p.Forced(), api.Force{Cell: i, Value: someOf(c.Kind)})
		} else {
			has(t, p, i, whole(api.KRef, 0))
			forced(t, p.Forced())
		}
	}
	p := panelOf(t, m)
	for _, v := range []api.Value{whole(api.KLreal, 0x7ff8000000000002), whole(api.KDate, 1), whole(api.KTod, 86400000000000), whole(api.KSint, 128), whole(api.KByte, 256), {Kind: api.KString, Text: strings.Repeat("x", 255)}, {Kind: api.KBool, Bits: 1, Text: "x"}} {
		refuses(t, p.Force(int(v.Kind-api.KBool), v), api.ErrInput)
	}
	forced(t, p.Forced())
}

// P26.2: beyond bounds nothing is taken, in no mode; what is refused changes nothing.
func TestForceBeyond(t *testing.T) {
	for _, mode := range modes() {
		p := inMode(t, mode)
		must(t, p.Force(cellLevel, number(8)))
		ahead := cellsOf(t, p)
		for _, cell := range []int{-1, numCells, -1 << 63, 1<<63 - 1, api.MaxCells} {
			refuses(t, p.Force(cell, number(1)), api.ErrArg)
			refuses(t, p.Force(cell, api.Value{}), api.ErrArg)
		}
		for _, x := range []struct {
			cell int
			v    api.Value
		}{{cellLevel, number(-1)}, {cellLevel, number(101)}, {cellLevel, yes}, {cellText, long(6)}, {cellText, number(1)}, {cellKept, api.Value{}}, {cellKept, number(32768)}, {cellRef, whole(api.KRef, 1)}} {
			refuses(t, p.Force(x.cell, x.v), api.ErrInput)
		}
		forced(t, p.Forced(), api.Force{Cell: cellLevel, Value: number(8)})
		if got := cellsOf(t, p); !slices.Equal(got, ahead) {
			t.Error(got, ahead)
		}
		must(t, p.Force(cellLevel, number(0)))
		must(t, p.Force(cellLevel, number(100)))
		must(t, p.Force(cellText, long(5)))
		must(t, p.Force(cellMemory, number(-32768)))
		forced(t, p.Forced(), api.Force{Cell: cellMemory, Value: number(-32768)}, api.Force{Cell: cellText, Value: long(5)}, api.Force{Cell: cellLevel, Value: number(100)})
	}
}

// P26.2: a cell that is forced twice has the later value; Forced tells cells rising, however they were forced.
func TestForcedTwice(t *testing.T) {
	p := panelOf(t, numbered(9, 0))
	for _, cell := range []int{5, 2, 8, 0, 5, 2} {
		must(t, p.Force(cell, number(10*cell)))
	}
	must(t, p.Force(2, number(77)))
	has(t, p, 2, number(77))
	forced(t, p.Forced(), api.Force{Cell: 0, Value: number(0)}, api.Force{Cell: 2, Value: number(77)}, api.Force{Cell: 5, Value: number(50)}, api.Force{Cell: 8, Value: number(80)})
	must(t, p.Free(5))
	refuses(t, p.Free(5), api.ErrForced)
	must(t, p.Free(0))
	forced(t, p.Forced(), api.Force{Cell: 2, Value: number(77)}, api.Force{Cell: 8, Value: number(80)})
	must(t, p.Force(5, number(1)))
	forced(t, p.Forced(), api.Force{Cell: 2, Value: number(77)}, api.Force{Cell: 5, Value: number(1)}, api.Force{Cell: 8, Value: number(80)})
}

// P26.2: what is freed has what it has, and is not held any more; what is not forced can't be freed.
func TestFree(t *testing.T) {
	p := started(t, task("A", 10, 1, countsSum))
	for _, cell := range []int{0, cellSum, -1, numCells, -1 << 63, 1<<63 - 1} {
		refuses(t, p.Free(cell), api.ErrForced)
	}
	must(t, p.Force(cellSum, number(40)))
	entry(t, p, 10)
	must(t, p.Free(cellSum))
	has(t, p, cellSum, number(40))
	refuses(t, p.Free(cellSum), api.ErrForced)
	entry(t, p, 10)
	has(t, p, cellSum, number(41))
	must(t, p.Stop())
	must(t, p.Reset(false))
	has(t, p, cellSum, number(-1))
}

// P26.2: so many cells, and no further one; one that is forced already may have another value.
func TestMostForces(t *testing.T) {
	p := panelOf(t, numbered(api.MaxForces+2, 0))
	var want []api.Force
	for cell := api.MaxForces; cell > 0; cell-- {
		must(t, p.Force(cell, number(1000+cell)))
		want = append([]api.Force{{Cell: cell, Value: number(1000 + cell)}}, want...)
	}
	forced(t, p.Forced(), want...)
	for _, cell := range []int{0, api.MaxForces + 1} {
		refuses(t, p.Force(cell, number(5)), api.ErrFull)
		// Nothing is poked then.
		has(t, p, cell, number(cell))
	}
	// A poke's error is told ahead of it.
	refuses(t, p.Force(api.MaxForces+2, number(5)), api.ErrArg)
	refuses(t, p.Force(-1, yes), api.ErrArg)
	refuses(t, p.Force(0, yes), api.ErrInput)
	forced(t, p.Forced(), want...)
	must(t, p.Force(7, number(5)))
	want[6].Value = number(5)
	forced(t, p.Forced(), want...)
	refuses(t, p.Free(0), api.ErrForced)
	must(t, p.Free(9))
	must(t, p.Force(0, number(5)))
	refuses(t, p.Force(9, number(5)), api.ErrFull)
	has(t, p, 9, number(1009))
	if l := p.Forced(); len(l) != api.MaxForces || l[0] != (api.Force{Cell: 0, Value: number(5)}) {
		t.Error(l)
	}
}

// held checks that each forced cell has its value.
func held(t *testing.T, p interface {
	Forced() []api.Force
	Look(cells []int) ([]api.Value, api.Errno)
}) {
	t.Helper()
	for _, f := range p.Forced() {
		if l, why := p.Look([]int{f.Cell}); why != api.OK || l[0] != f.Value {
			t.Fatal(f, l, why)
		}
	}
}

// P26.9, P26.1: behind each call a forced cell has its value: whatever is started, stopped, made initial, run or loaded.
func TestHeld(t *testing.T) {
	p := panelOf(t, usual(t))
	other := panelOf(t, usual(t)).Save()
	for cell, v := range map[int]api.Value{cellIn: yes, cellWord: number(9), cellOut: no, cellSum: number(1), cellMemory: number(2), cellKept: number(3), cellText: text("z"), cellLevel: number(4), cellReal: value.Lreal(-1), cellPlain: number(6)} {
		must(t, p.Force(cell, v))
		held(t, p)
	}
	want := cellsOf(t, p)
	check := func(why api.Errno) {
		t.Helper()
		must(t, why)
		if got := cellsOf(t, p); !slices.Equal(got, want) {
			t.Error(got, want)
		}
		held(t, p)
	}
	check(p.Start())
	for range 5 {
		entry(t, p, 10, at("%IX0.0", no), at("%IW1", number(1)))
		check(api.OK)
	}
	check(p.Stop())
	entry(t, p, 10, at("%IX0.0", no), at("%IW1", number(1)))
	check(p.Load(other))
	check(p.Reset(true))
	check(p.Reset(false))
	check(p.Load(p.Save()))
	check(p.Start())
	// A fault commits nothing of the cells, but what is forced stays so.
	must(t, p.Force(cellEvent, yes))
	want = cellsOf(t, p)
	if report := entry(t, p, 10); report.Fault != api.FaultZero {
		t.Error(report)
	}
	check(api.OK)
	check(p.Load(other))
	check(p.Reset(true))
}

// P26.1: behind a warm start and a cold one forced cells have their values, the others what the start gives them.
func TestResetOverForces(t *testing.T) {
	for _, warm := range []bool{false, true} {
		p := inMode(t, api.ModeStop)
		must(t, p.Force(cellLevel, number(1)))
		must(t, p.Force(cellPlain, number(2)))
		kept := cellsOf(t, p)[cellKept]
		must(t, p.Reset(warm))
		has(t, p, cellLevel, number(1))
		has(t, p, cellPlain, number(2))
		has(t, p, cellSum, number(-1))
		if !warm {
			kept = number(100)
		}
		has(t, p, cellKept, kept)
		forced(t, p.Forced(), api.Force{Cell: cellLevel, Value: number(1)}, api.Force{Cell: cellPlain, Value: number(2)})
	}
}
