package watch_test

import (
	"slices"
	"testing"

	"relay/api"
	"relay/sched"
	"relay/vm"
	"relay/watch"
)

// P26.1: a new panel has a resource that has stopped, with initial values, and no forced cells.
func TestNew(t *testing.T) {
	m := usual(t)
	p := panelOf(t, m)
	if got := cellsOf(t, p); !slices.Equal(got, vm.Start(m.Cells)) || len(p.Forced()) != 0 || len(p.Changed()) != 0 {
		t.Error(got, p.Forced())
	}
	if got, want := entry(t, p, 5), entry(t, resourceOf(t, m), 5); !sameReport(got, want) || got.Mode != api.ModeStop {
		t.Error(got, want)
	}
	empty := panelOf(t, api.Image{Name: "M"})
	must(t, empty.Start())
	if report := entry(t, empty, 1); !sameReport(report, api.Report{Mode: api.ModeRun}) {
		t.Error(report)
	}
}

// P26.1, P26.6: of an image that may not be there is none, but what sched says.
func TestNewOfWhatMayNotBe(t *testing.T) {
	why := map[api.Errno]int{}
	for _, spoil := range []func(m *api.Image){
		func(m *api.Image) { m.Name = "" },
		func(m *api.Image) { m.Cells = make([]api.Cell, api.MaxCells+1) },
		func(m *api.Image) { m.Cells[cellPlain].Kind = api.KNone },
		func(m *api.Image) { m.Cells[cellPlain].Dir, m.Cells[cellPlain].Addr = 1, "%IX0.0" },
		func(m *api.Image) { m.Cells[cellRef].Keep = true },
		func(m *api.Image) { m.Cells[cellKept].Init = yes },
		func(m *api.Image) { m.Codes[2].Ops = nil },
		func(m *api.Image) { m.Codes[3].Ops[0].A = api.MaxRegs },
		func(m *api.Image) { m.Jobs[2].Single = cellPlain },
		func(m *api.Image) { m.Jobs = append(m.Jobs, m.Jobs[0]) },
	} {
		m := usual(t)
		spoil(&m)
		_, want := sched.New(m)
		p, got := watch.New(m)
		x, twin := watch.Twin(m)
		if p != nil || x != nil || got != want || twin != want || want == api.OK {
			t.Error(p, x, got, twin, want)
		}
		why[got]++
	}
	if len(why) < 4 {
		t.Error(why)
	}
}

// P26.1: Start and Stop are the resource's, in each mode; so is what Reset is refused with.
func TestModes(t *testing.T) {
	for _, mode := range modes() {
		starts, stops, resets := api.ErrState, api.ErrState, api.OK
		switch mode {
		case api.ModeStop:
			starts = api.OK
		case api.ModeRun:
			stops, resets = api.OK, api.ErrState
		}
		refuses(t, inMode(t, mode).Start(), starts)
		refuses(t, inMode(t, mode).Stop(), stops)
		for _, warm := range []bool{false, true} {
			p := inMode(t, mode)
			ahead := cellsOf(t, p)
			refuses(t, p.Reset(warm), resets)
			want := ahead
			if resets == api.OK {
				want = vm.Start(someCells())
				for i, c := range someCells() {
					if warm && c.Keep {
						want[i] = ahead[i]
					}
				}
				if report := entry(t, p, 0); report.Mode != api.ModeStop {
					t.Error(report)
				}
			}
			if got := cellsOf(t, p); !slices.Equal(got, want) {
				t.Error(mode, warm, got, want)
			}
		}
	}
}

// P26.8: a panel that no call made has nothing.
func TestNoPanel(t *testing.T) {
	for _, p := range []*watch.Panel{nil, {}} {
		report, why := p.Entry(0, nil)
		if why != api.ErrNil || !sameReport(report, api.Report{}) {
			t.Error(report, why)
		}
		_, wrong := p.Entry(-1, []api.Input{{}})
		l, look := p.Look([]int{0})
		none, looks := p.Look(nil)
		for i, why := range []api.Errno{p.Start(), p.Stop(), p.Reset(true), p.Reset(false), wrong, p.Force(0, yes), p.Force(-1, api.Value{}), p.Free(0), p.Free(-1), look, looks, p.Load(nil), p.Load([]byte{0x72, 0x6b, 0, 0})} {
			if why != api.ErrNil {
				t.Error(i, why)
			}
		}
		if len(l)+len(none)+len(p.Forced())+len(p.Changed())+len(p.Save()) != 0 {
			t.Error(l, none, p.Forced(), p.Changed(), p.Save())
		}
	}
}

// P26.8: nor has such a pair.
func TestNoPair(t *testing.T) {
	for _, x := range []*watch.Pair{nil, {}} {
		report, why := x.Entry(0, nil)
		if why != api.ErrNil || !sameReport(report, api.Report{}) {
			t.Error(report, why)
		}
		for i, why := range []api.Errno{x.Start(), x.Down(0), x.Down(1), x.Down(2), x.Down(-1)} {
			if why != api.ErrNil {
				t.Error(i, why)
			}
		}
		if x.Leads() != -1 || x.Follow(1) != 0 || x.Follow(-1) != 0 || len(x.Cells(0))+len(x.Cells(1))+len(x.Cells(2)) != 0 {
			t.Error(x.Leads(), x.Follow(1), x.Cells(0))
		}
	}
}
