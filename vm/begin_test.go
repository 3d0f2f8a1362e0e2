package vm_test

import (
	"testing"

	"relay/api"
	"relay/value"
	"relay/vm"
)

// call is a call of Run.
type call struct {
	codes         []api.Flat
	fn, base, now int
	cells         []api.Cell
	mem           []api.Value
	most          int
}

func (c call) run() outcome {
	after, steps, fault := vm.Run(c.codes, c.fn, c.base, c.now, c.cells, c.mem, c.most)
	return outcome{after, steps, fault}
}

// plain is a call that runs over a cell of each kind.
func plain(t *testing.T) call {
	c := call{codes: read(t, "return", "return"), most: 9}
	for k := api.KBool; k <= api.KRef; k++ {
		c.cells = append(c.cells, api.Cell{Kind: k})
	}
	c.mem = vm.Start(c.cells)
	return c
}

// P21.1: what can't begin, each by itself, and what just can.
func TestBegins(t *testing.T) {
	for name, x := range map[string]struct {
		change func(c *call)
		fault  int
	}{
		"nothing":          {func(c *call) {}, 0},
		"second code":      {func(c *call) { c.fn = 1 }, 0},
		"code 2":           {func(c *call) { c.fn = 2 }, api.FaultKind},
		"code -1":          {func(c *call) { c.fn = -1 }, api.FaultKind},
		"least code":       {func(c *call) { c.fn = -1 << 63 }, api.FaultKind},
		"greatest code":    {func(c *call) { c.fn = 1<<63 - 1 }, api.FaultKind},
		"no codes":         {func(c *call) { c.codes = nil }, api.FaultKind},
		"no registers":     {func(c *call) { c.codes[0].Regs = 0 }, 0},
		"all registers":    {func(c *call) { c.codes[0].Regs, c.codes[1].Regs = 1<<16, 1<<16 }, 0},
		"registers more":   {func(c *call) { c.codes[0].Regs = 1<<16 + 1 }, api.FaultKind},
		"registers -1":     {func(c *call) { c.codes[0].Regs = -1 }, api.FaultKind},
		"other registers":  {func(c *call) { c.codes[1].Regs = 1<<16 + 1 }, api.FaultKind},
		"huge registers":   {func(c *call) { c.codes[1].Regs = 1<<63 - 1 }, api.FaultKind},
		"no slots":         {func(c *call) { c.codes[0].Slots = 0 }, 0},
		"all slots":        {func(c *call) { c.codes[0].Slots, c.codes[1].Slots = api.MaxSlots, api.MaxSlots }, 0},
		"slots more":       {func(c *call) { c.codes[0].Slots = api.MaxSlots + 1 }, api.FaultKind},
		"slots -1":         {func(c *call) { c.codes[0].Slots = -1 }, api.FaultKind},
		"other slots":      {func(c *call) { c.codes[1].Slots = -1 }, api.FaultKind},
		"value more":       {func(c *call) { c.mem = append(c.mem, value.Bool(true)) }, api.FaultKind},
		"value less":       {func(c *call) { c.mem = c.mem[1:] }, api.FaultKind},
		"no values":        {func(c *call) { c.mem = nil }, api.FaultKind},
		"no cells":         {func(c *call) { c.cells = nil }, api.FaultKind},
		"neither":          {func(c *call) { c.mem, c.cells = nil, nil }, 0},
		"another kind":     {func(c *call) { c.mem[2].Kind = api.KSint }, api.FaultKind},
		"a cell's kind":    {func(c *call) { c.cells[2].Kind = api.KSint }, api.FaultKind},
		"no kind":          {func(c *call) { c.mem[2].Kind, c.cells[2].Kind = 0, 0 }, api.FaultKind},
		"kind beyond":      {func(c *call) { c.mem[2].Kind, c.cells[2].Kind = api.NumKind, api.NumKind }, api.FaultKind},
		"what may not be":  {func(c *call) { c.mem[2].Bits = 32768 }, api.FaultKind},
		"BOOL 2":           {func(c *call) { c.mem[0].Bits = 2 }, api.FaultKind},
		"text of an INT":   {func(c *call) { c.mem[2].Text = "a" }, api.FaultKind},
		"any reference":    {func(c *call) { c.mem[19].Bits = 1<<64 - 1 }, 0},
		"a REF for an INT": {func(c *call) { c.mem[2] = c.mem[19] }, api.FaultKind},
		"an INT for a REF": {func(c *call) { c.mem[19] = c.mem[2] }, api.FaultKind},
		"beyond a range":   {func(c *call) { c.cells[2].Sub, c.cells[2].Lo, c.cells[2].Hi = true, 5, 9 }, 0},
		"now -1":           {func(c *call) { c.now = -1 }, api.FaultKind},
		"last now":         {func(c *call) { c.now = api.MaxNow }, 0},
		"now more":         {func(c *call) { c.now = api.MaxNow + 1 }, api.FaultKind},
		"last base":        {func(c *call) { c.base = len(c.cells) }, 0},
		"base more":        {func(c *call) { c.base = len(c.cells) + 1 }, api.FaultRef},
		"base -1":          {func(c *call) { c.base = -1 }, api.FaultRef},
		"huge base":        {func(c *call) { c.base = 1<<63 - 1 }, api.FaultRef},
		"one step":         {func(c *call) { c.most = 1 }, 0},
		"most -1":          {func(c *call) { c.most = -1 }, api.FaultSteps},
		"least most":       {func(c *call) { c.most = -1 << 63 }, api.FaultSteps},
		"huge most":        {func(c *call) { c.most = 1<<63 - 1 }, 0},
		"most 0":           {func(c *call) { c.most = 0 }, api.FaultSteps},
	} {
		c := plain(t)
		x.change(&c)
		want := outcome{c.mem, 1, 0}
		if x.fault != 0 {
			want = outcome{nil, 0, x.fault}
		}
		if got := c.run(); !got.same(want) {
			t.Error(name, got, "not", want)
		}
	}
}

// Of several the first is told: FaultKind, then FaultRef, then FaultSteps.
func TestWhichIsTold(t *testing.T) {
	kinds := map[string]func(c *call){
		"fn": func(c *call) { c.fn = 2 }, "regs": func(c *call) { c.codes[1].Regs = -1 }, "slots": func(c *call) { c.codes[1].Slots = -1 },
		"mem": func(c *call) { c.mem = c.mem[1:] }, "value": func(c *call) { c.mem[0].Bits = 2 }, "now": func(c *call) { c.now = -1 },
	}
	for name, change := range kinds {
		c := plain(t)
		c.base, c.most = -1, -1
		change(&c)
		if got := c.run(); !got.same(outcome{nil, 0, api.FaultKind}) {
			t.Error(name, got)
		}
		c.base = 0
		if got := c.run(); !got.same(outcome{nil, 0, api.FaultKind}) {
			t.Error(name, got)
		}
	}
	c := plain(t)
	c.base, c.most = -1, -1
	if got := c.run(); !got.same(outcome{nil, 0, api.FaultRef}) {
		t.Error(got)
	}
}

// P21.2: each kind, of an Init that may be, that may not be, and of another kind.
func TestStart(t *testing.T) {
	for k := api.Kind(0); k <= api.NumKind+1; k++ {
		zero := value.Zero(k)
		if k == api.KRef {
			zero = api.Value{Kind: k}
		}
		other := api.KInt
		if k == api.KInt {
			other = api.KSint
		}
		one := api.Value{Kind: k, Bits: 1}
		switch k {
		case api.KString:
			one = api.Value{Kind: k, Text: "a"}
		case api.KDate:
			one.Bits = 86400000000000
		}
		wantOne := one
		if k == api.KRef || !value.May(one) {
			wantOne = zero
		}
		cells := []api.Cell{
			{Kind: k}, {Kind: k, Init: zero}, {Kind: k, Init: one}, {Kind: k, Init: api.Value{Kind: other, Bits: 1}},
			{Kind: k, Init: api.Value{Kind: k, Bits: 1, Text: "x"}}, {Kind: k, Init: api.Value{Kind: k, Bits: 1<<64 - 2, Text: "x"}}, {Kind: k, Sub: true, Lo: 5, Hi: 9, Max: 1, Init: one, Keep: true, Dir: 1, Addr: "%IX0.0"},
		}
		want := []api.Value{zero, zero, wantOne, zero, zero, zero, wantOne}
		got := vm.Start(cells)
		if len(got) != len(want) {
			t.Fatal(k, got)
		}
		for i := range want {
			if got[i] != want[i] {
				t.Error(k, i, got[i], want[i])
			}
		}
	}
	if l := vm.Start(nil); len(l) != 0 {
		t.Error(l)
	}
	if l := vm.Start([]api.Cell{}); len(l) != 0 {
		t.Error(l)
	}
}

// What Start answers a run takes.
func TestStartBegins(t *testing.T) {
	c := plain(t)
	for i := range c.cells {
		c.cells[i].Init = api.Value{Kind: api.KNone, Bits: 7, Text: "x"}
	}
	c.mem = vm.Start(c.cells)
	if got := c.run(); !got.same(outcome{c.mem, 1, 0}) {
		t.Error(got)
	}
}
