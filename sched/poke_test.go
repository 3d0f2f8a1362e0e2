package sched_test

import (
	"strings"
	"testing"

	"relay/api"
	"relay/value"
)

// P23.4: a cell takes what fits it, in each mode, and outputs stay as they were committed.
func TestPoke(t *testing.T) {
	for _, mode := range []int{api.ModeStop, api.ModeRun, api.ModeFault} {
		r := inMode(t, mode)
		for _, cell := range []int{-1, numCells, -1 << 63, 1<<63 - 1, api.MaxCells} {
			if why := r.Poke(cell, number(1)); why != api.ErrArg {
				t.Error(cell, why)
			}
			if why := r.Poke(cell, api.Value{}); why != api.ErrArg {
				t.Error(cell, why)
			}
		}
		ahead := stateOf(r)
		for _, v := range []api.Value{{}, value.Bool(true), whole(api.KDint, 1), number(32768), {Kind: api.KInt, Text: "1"}, whole(api.KRef, 0)} {
			if why := r.Poke(cellSum, v); why != api.ErrInput || !stateOf(r).same(ahead) {
				t.Error(v, why)
			}
		}
		must(t, r.Poke(cellSum, number(-32768)))
		must(t, r.Poke(cellIn, value.Bool(true)))
		ahead.cells[cellSum], ahead.cells[cellIn] = number(-32768), value.Bool(true)
		if !stateOf(r).same(ahead) {
			t.Error(stateOf(r), ahead)
		}
	}
}

// A value of each kind is for a cell of that kind alone; for one that keeps references there is none.
func TestPokeOfEachKind(t *testing.T) {
	some := func(k api.Kind) api.Value {
		switch k {
		case api.KLreal:
			return value.Lreal(-0.5)
		case api.KString:
			return api.Value{Kind: k, Text: "x"}
		case api.KDate:
			return whole(k, 86400000000000)
		}
		return whole(k, 1)
	}
	m := api.Image{Name: "M"}
	for k := api.KBool; k <= api.KRef; k++ {
		m.Cells = append(m.Cells, api.Cell{Kind: k, Init: api.Value{Kind: k}})
	}
	for i := range m.Cells {
		r := made(t, m)
		for k := api.KBool; k <= api.KRef; k++ {
			why, want := r.Poke(i, some(k)), api.ErrInput
			if m.Cells[i].Kind == k && k != api.KRef {
				want = api.OK
			}
			if why != want {
				t.Error(i, k, why)
			}
		}
		if k := m.Cells[i].Kind; k != api.KRef {
			has(t, r, i, some(k))
		} else {
			has(t, r, i, api.Value{Kind: api.KRef})
		}
	}
	r := made(t, m)
	for _, v := range []api.Value{whole(api.KLreal, 0x7ff8000000000002), whole(api.KDate, 1), whole(api.KTod, 86400000000000), whole(api.KSint, 128), whole(api.KByte, 256), {Kind: api.KString, Text: strings.Repeat("x", 255)}} {
		if why := r.Poke(int(v.Kind-api.KBool), v); why != api.ErrInput {
			t.Error(v, why)
		}
	}
}

// Beyond bounds nothing is taken.
func TestPokeBeyondBounds(t *testing.T) {
	m := api.Image{Name: "M", Cells: []api.Cell{
		{Kind: api.KInt, Sub: true, Lo: -3, Hi: 100, Init: number(0)},
		{Kind: api.KString, Max: 3, Init: api.Value{Kind: api.KString}},
		{Kind: api.KString, Init: api.Value{Kind: api.KString}},
		{Kind: api.KUlint, Sub: true, Lo: 0, Hi: 1<<63 - 1, Init: whole(api.KUlint, 0)},
	}}
	r := made(t, m)
	text := func(n int) api.Value { return api.Value{Kind: api.KString, Text: strings.Repeat("x", n)} }
	for _, x := range []struct {
		cell int
		v    api.Value
		why  api.Errno
	}{
		{0, number(-3), api.OK}, {0, number(100), api.OK}, {0, number(-4), api.ErrInput}, {0, number(101), api.ErrInput},
		{1, text(0), api.OK}, {1, text(3), api.OK}, {1, text(4), api.ErrInput},
		{2, text(254), api.OK}, {2, text(255), api.ErrInput},
		{3, whole(api.KUlint, 1<<63-1), api.OK}, {3, whole(api.KUlint, -1), api.ErrInput},
	} {
		ahead := r.Cells()[x.cell]
		if why := r.Poke(x.cell, x.v); why != x.why {
			t.Error(x, why)
		}
		if x.why == api.OK {
			ahead = x.v
		}
		has(t, r, x.cell, ahead)
	}
}
