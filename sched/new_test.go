package sched_test

import (
	"slices"
	"testing"

	"relay/api"
	"relay/image"
	"relay/sched"
	"relay/value"
	"relay/vm"
)

// P23.1: a new resource has stopped, at time 0, with initial values, which its outputs are too.
func TestNew(t *testing.T) {
	m := imageOf(t, task("A", 10, 1, countsSum))
	r := made(t, m)
	if !slices.Equal(r.Cells(), vm.Start(m.Cells)) || r.Now() != 0 || r.Mode() != api.ModeStop {
		t.Error(stateOf(r))
	}
	shows(t, r, true, -1)
	report := entry(t, r, 0)
	if want := (api.Report{Outputs: r.Outputs(), Mode: api.ModeStop, Over: []int{0}}); !sameReport(report, want) {
		t.Error(report)
	}
	empty := made(t, api.Image{Name: "M"})
	if len(empty.Cells()) != 0 || len(empty.Outputs()) != 0 || empty.Mode() != api.ModeStop {
		t.Error(stateOf(empty))
	}
	must(t, empty.Start())
	if report := entry(t, empty, 5); !sameReport(report, api.Report{Mode: api.ModeRun}) {
		t.Error(report)
	}
}

// P23.1: of an image that may not be there is none, but what image.Check says.
func TestNewOfWhatMayNotBe(t *testing.T) {
	why := map[api.Errno]int{}
	for _, spoil := range []func(m *api.Image){
		func(m *api.Image) { m.Name = "" },
		func(m *api.Image) { m.Name = "_M" },
		func(m *api.Image) { m.Cells = make([]api.Cell, api.MaxCells+1) },
		func(m *api.Image) { m.Cells[cellOther].Kind = api.KNone },
		func(m *api.Image) { m.Cells[cellOther].Dir, m.Cells[cellOther].Addr = 1, "%IX0.0" },
		func(m *api.Image) { m.Cells[cellWord].Sub, m.Cells[cellWord].Hi = true, 9 },
		func(m *api.Image) { m.Cells[cellPlain].Init = value.Bool(true) },
		func(m *api.Image) { m.Codes[0].Name = "1" },
		func(m *api.Image) { m.Codes[2].Ops = nil },
		func(m *api.Image) { m.Codes[3].Ops[0].A = api.MaxRegs },
		func(m *api.Image) { m.Jobs = append(m.Jobs, m.Jobs[0]) },
		func(m *api.Image) { m.Jobs[0].Single = cellPlain },
		func(m *api.Image) { m.Jobs[0].Bases[0] = -1 },
		func(m *api.Image) { m.Jobs[0].Bound = api.MaxBound + 1 },
	} {
		m := imageOf(t, task("A", 10, 1, countsSum))
		spoil(&m)
		_, _, want := image.Check(m)
		r, got := sched.New(m)
		if r != nil || got != want || want == api.OK {
			t.Error(r, got, want)
		}
		why[got]++
	}
	if len(why) < 5 {
		t.Error(why)
	}
}

// Addresses that share bits are two.
func TestAddressesApart(t *testing.T) {
	m := api.Image{Name: "M", Cells: []api.Cell{
		{Kind: api.KByte, Init: value.Zero(api.KByte), Dir: 1, Addr: "%IB0"},
		{Kind: api.KBool, Init: value.Zero(api.KBool), Dir: 1, Addr: "%IX0.0"},
	}}
	r := made(t, m)
	entry(t, r, 0, at("%IX0.0", value.Bool(true)))
	has(t, r, 0, whole(api.KByte, 0))
	has(t, r, 1, value.Bool(true))
	entry(t, r, 0, at("%IB0", whole(api.KByte, 255)), at("%IX0.0", value.Bool(false)))
	has(t, r, 0, whole(api.KByte, 255))
	has(t, r, 1, value.Bool(false))
}

// A resource that no call made has nothing.
func TestNoResource(t *testing.T) {
	for _, r := range []*sched.Resource{nil, {}} {
		report, why := r.Entry(0, nil)
		if why != api.ErrNil || !sameReport(report, api.Report{}) {
			t.Error(report, why)
		}
		if _, why := r.Entry(-1, []api.Input{{}}); why != api.ErrNil {
			t.Error(why)
		}
		for i, why := range []api.Errno{r.Start(), r.Stop(), r.Reset(true), r.Reset(false), r.Poke(0, value.Bool(true)), r.Poke(-1, api.Value{})} {
			if why != api.ErrNil {
				t.Error(i, why)
			}
		}
		if r.Now() != 0 || r.Mode() != 0 || len(r.Cells()) != 0 || len(r.Outputs()) != 0 {
			t.Error(stateOf(r))
		}
	}
}
