package tasks_test

import (
	"slices"
	"strings"
	"testing"

	"relay/api"
	"relay/tasks"
	"relay/value"
)

func number(n int) api.Value { return api.Value{Kind: api.KInt, Bits: uint64(n)} }

func text(n int) api.Value { return api.Value{Kind: api.KString, Text: strings.Repeat("x", n)} }

func at(addr string, v api.Value) api.Input { return api.Input{Addr: addr, Value: v} }

// Of several cells of one address the first is the input, for values that are for it; each of several outputs has its own. No image has such cells.
func TestCellsOfOneAddress(t *testing.T) {
	r := tasks.New([]api.Cell{
		{Kind: api.KInt, Dir: 0, Addr: "%IW0", Init: number(1)},
		{Kind: api.KInt, Dir: 2, Addr: "%IW0", Init: number(2)},
		{Kind: api.KInt, Sub: true, Lo: -1, Hi: 5, Dir: 1, Addr: "%IW0", Init: number(3)},
		{Kind: api.KInt, Dir: 1, Addr: "%IW0", Init: number(4)},
		{Kind: api.KString, Max: 3, Dir: 1, Addr: "%IL0", Init: text(0)},
		{Kind: api.KInt, Dir: 2, Addr: "%IW0", Init: number(5)},
	}, nil, nil)
	for _, x := range []struct {
		in  api.Input
		why api.Errno
	}{
		{at("%IW0", number(5)), api.OK}, {at("%IW0", number(-1)), api.OK}, {at("%IW0", number(6)), api.ErrInput}, {at("%IW0", number(-2)), api.ErrInput}, {at("%IW0", text(0)), api.ErrInput},
		{at("%IL0", text(3)), api.OK}, {at("%IL0", text(4)), api.ErrInput}, {at("%IL0", number(1)), api.ErrInput},
	} {
		if _, why := r.Entry(0, []api.Input{x.in}); why != x.why {
			t.Error(x, why)
		}
	}
	if want := []api.Value{number(1), number(2), number(-1), number(4), text(3), number(5)}; !slices.Equal(r.Cells(), want) {
		t.Error(r.Cells())
	}
	if want := []api.Input{at("%IW0", number(2)), at("%IW0", number(5))}; !slices.Equal(r.Outputs(), want) {
		t.Error(r.Outputs())
	}
}

// asked is with what a program was run.
type asked struct{ code, base, now, most int }

// A task's programs are run in order, each over what the one ahead of it left, with the steps that are left; the first fault ends it, and the cells are what they were.
func TestPrograms(t *testing.T) {
	var got []asked
	stopAt := -1
	run := func(code, base, now int, mem []api.Value, most int) ([]api.Value, int, int) {
		got = append(got, asked{code, base, now, most})
		if code == stopAt {
			return nil, 1, api.FaultRange
		}
		after := slices.Clone(mem)
		after[0].Bits = after[0].Bits*10 + uint64(code)
		return after, code, 0
	}
	cells := []api.Cell{{Kind: api.KInt, Init: number(0), Dir: 2, Addr: "%QW0"}}
	r := tasks.New(cells, []api.Job{{Name: "A", Interval: 5, Single: -1, Codes: []int{3, 1, 4}, Bases: []int{0, 7, 9}, Bound: 20}, {Name: "B", Interval: 5, Single: -1, Codes: []int{2}, Bases: []int{1}, Bound: 2}}, run)
	if why := r.Start(); why != api.OK {
		t.Fatal(why)
	}
	report, why := r.Entry(8, nil)
	want := []asked{{3, 0, 8, 20}, {1, 7, 8, 17}, {4, 9, 8, 16}, {2, 1, 8, 2}}
	if why != api.OK || !slices.Equal(got, want) || report.Steps != 10 || r.Cells()[0] != number(3142) || report.Outputs[0].Value != number(3142) {
		t.Error(why, got, report)
	}
	got, stopAt = nil, 1
	report, _ = r.Entry(8, nil)
	if !slices.Equal(got, []asked{{3, 0, 16, 20}, {1, 7, 16, 17}}) || report.Steps != 4 || report.Fault != api.FaultRange || report.In != "A" || r.Cells()[0] != number(3142) || !slices.Equal(report.Ran, []string{"A"}) {
		t.Error(got, report)
	}
}

// What is handed in is neither changed nor kept.
func TestMemory(t *testing.T) {
	cells := []api.Cell{{Kind: api.KBool, Init: value.Bool(true), Dir: 1, Addr: "%IX0.0"}}
	jobs := []api.Job{{Name: "A", Interval: 5, Single: -1, Codes: []int{3}, Bases: []int{0}, Bound: 20}}
	code := 0
	r := tasks.New(cells, jobs, func(c, _, _ int, mem []api.Value, _ int) ([]api.Value, int, int) {
		code = c
		return slices.Clone(mem), 0, 0
	})
	cells[0], jobs[0].Codes[0], jobs[0].Name = api.Cell{}, 9, "B"
	r.Start()
	report, why := r.Entry(5, []api.Input{at("%IX0.0", value.Bool(false))})
	if why != api.OK || code != 3 || report.Ran[0] != "A" || r.Cells()[0] != value.Bool(false) {
		t.Error(report, why, code)
	}
}
