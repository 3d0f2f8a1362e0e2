package image_test

import (
	"math/rand"
	"slices"
	"strings"
	"testing"

	"relay/api"
	"relay/image"
	"relay/value"
)

const (
	least = -1 << 63
	most  = 1<<63 - 1
)

func TestGood(t *testing.T) {
	for _, m := range []api.Image{good(), {Name: "M"}, {Name: "M", Cells: []api.Cell{}, Codes: []api.Flat{}, Jobs: []api.Job{}}} {
		if x := check(m); x != (refusal{}) {
			t.Error(m, x)
		}
	}
	codes := map[int]bool{}
	for _, o := range everyOp() {
		codes[o.Code] = true
	}
	if len(codes) != api.NumIr-1 {
		t.Error(codes)
	}
}

// wrong is a change to a good image, and what Check answers then.
type wrong struct {
	name   string
	change func(m *api.Image)
	want   refusal
}

// ofCell is a change to a cell, which is refused.
func ofCell(i int, name string, change func(c *api.Cell)) wrong {
	return wrong{name, func(m *api.Image) { change(&m.Cells[i]) }, refusal{i, 0, api.ErrCell}}
}

func ofCode(i int, name string, why api.Errno, change func(f *api.Flat)) wrong {
	return wrong{name, func(m *api.Image) { change(&m.Codes[i]) }, refusal{i, 0, why}}
}

func ofOp(i, at int, name string, change func(o *api.Op)) wrong {
	return wrong{name, func(m *api.Image) { change(&m.Codes[i].Ops[at]) }, refusal{i, at, api.ErrCode}}
}

func ofJob(i int, name string, why api.Errno, change func(j *api.Job)) wrong {
	return wrong{name, func(m *api.Image) { change(&m.Jobs[i]) }, refusal{i, 0, why}}
}

// wrongs is a change against each sentence of P20.1, in its order: of cells, codes and tasks by their numbers.
func wrongs() []wrong {
	l := []wrong{
		{"no name", func(m *api.Image) { m.Name = "" }, refusal{0, 0, api.ErrName}},
		{"a long name", func(m *api.Image) { m.Name = strings.Repeat("a", 25) }, refusal{0, 0, api.ErrName}},
		{"a hidden name", func(m *api.Image) { m.Name = "_A" }, refusal{0, 0, api.ErrName}},
		{"cells", func(m *api.Image) { m.Cells = slices.Grow(m.Cells, 5000)[:api.MaxCells+1] }, refusal{api.MaxCells, 0, api.ErrLong}},
		{"codes", func(m *api.Image) { m.Codes = slices.Grow(m.Codes, 5000)[:api.MaxPous+1] }, refusal{api.MaxPous, 0, api.ErrLong}},
		{"tasks", func(m *api.Image) { m.Jobs = slices.Grow(m.Jobs, 5000)[:api.MaxTasks+1] }, refusal{api.MaxTasks, 0, api.ErrLong}},
	}
	l = append(l, wrongCells()...)
	l = append(l, wrongCodes()...)
	return append(l, wrongJobs()...)
}

func wrongCells() []wrong {
	return []wrong{
		ofCell(cellBool, "KNone", func(c *api.Cell) { c.Kind, c.Init = api.KNone, api.Value{} }),
		ofCell(cellBool, "an address of another kind", func(c *api.Cell) { c.Kind, c.Init.Kind = api.KByte, api.KByte }),
		ofCell(cellBool, "an address of more bits", func(c *api.Cell) { c.Addr = "%IB0" }),
		ofCell(cellBool, "an address of an output", func(c *api.Cell) { c.Addr = "%QX0.7" }),
		ofCell(cellBool, "an address of memory", func(c *api.Cell) { c.Addr = "%MX0.7" }),
		ofCell(cellBool, "an address in small letters", func(c *api.Cell) { c.Addr = "%ix0.7" }),
		ofCell(cellBool, "no address of a bit", func(c *api.Cell) { c.Addr = "%IX0.8" }),
		ofCell(cellBool, "Dir without an address", func(c *api.Cell) { c.Addr = "" }),
		ofCell(cellBool, "Dir 0", func(c *api.Cell) { c.Dir = 0 }),
		ofCell(cellBool, "Dir 2", func(c *api.Cell) { c.Dir = 2 }),
		ofCell(cellBool, "Dir 3", func(c *api.Cell) { c.Dir = 3 }),
		ofCell(cellBool, "Dir -1", func(c *api.Cell) { c.Dir = -1 }),
		ofCell(cellBool, "Dir 257", func(c *api.Cell) { c.Dir = 257 }),
		ofCell(cellBool, "Sub of a BOOL", func(c *api.Cell) { c.Sub, c.Hi = true, 1 }),
		ofCell(cellBool, "Lo without Sub", func(c *api.Cell) { c.Lo = -1 }),
		ofCell(cellBool, "Hi without Sub", func(c *api.Cell) { c.Hi = 1 }),
		ofCell(cellBool, "Max of a BOOL", func(c *api.Cell) { c.Max = 1 }),
		ofCell(cellBool, "bits of a BOOL", func(c *api.Cell) { c.Init.Bits = 2 }),
		ofCell(cellBool, "a text of a BOOL", func(c *api.Cell) { c.Init.Text = "x" }),
		ofCell(cellLevel, "another kind", func(c *api.Cell) { c.Init.Kind = api.KDint }),
		ofCell(cellLevel, "below Lo", func(c *api.Cell) { c.Init = whole(api.KInt, -4) }),
		ofCell(cellLevel, "above Hi", func(c *api.Cell) { c.Init = whole(api.KInt, 101) }),
		ofCell(cellLevel, "Lo above Hi", func(c *api.Cell) { c.Lo = 101 }),
		ofCell(cellLevel, "bounds without Sub", func(c *api.Cell) { c.Sub = false }),
		ofCell(cellLevel, "an address with Sub", func(c *api.Cell) { c.Addr = "%MW3" }),
		ofCell(cellLevel, "Max of an INT", func(c *api.Cell) { c.Max = 254 }),
		ofCell(cellLevel, "no INT", func(c *api.Cell) { c.Init.Bits = 40000 }),
		ofCell(cellShort, "Max -1", func(c *api.Cell) { c.Max = -1 }),
		ofCell(cellShort, "Max 255", func(c *api.Cell) { c.Max = 255 }),
		ofCell(cellShort, "a text that is too long", func(c *api.Cell) { c.Init.Text = "abcde" }),
		ofCell(cellShort, "bits of a STRING", func(c *api.Cell) { c.Init.Bits = 1 }),
		ofCell(cellShort, "Sub of a STRING", func(c *api.Cell) { c.Sub = true }),
		ofCell(cellShort, "an address of a STRING", func(c *api.Cell) { c.Addr = "%ML0" }),
		ofCell(cellOut, "an input", func(c *api.Cell) { c.Dir = 1 }),
		ofCell(cellOut, "an address that is there", func(c *api.Cell) { *c = good().Cells[cellBool] }),
		ofCell(cellOut, "an address with noughts", func(c *api.Cell) { c.Addr = "%QW01" }),
		ofCell(cellOut, "Sub with an address", func(c *api.Cell) { c.Sub, c.Lo = true, -1 }),
		ofCell(cellMemory, "Dir of memory", func(c *api.Cell) { c.Dir = 1 }),
		ofCell(cellMemory, "an address that is there", func(c *api.Cell) { c.Kind, c.Init, c.Dir, c.Addr = api.KWord, whole(api.KWord, 0), 2, "%QW1" }),
		ofCell(cellMemory, "Sub of a bit row", func(c *api.Cell) { c.Sub, c.Addr = true, "" }),
		ofCell(cellRef, "a reference", func(c *api.Cell) { c.Init.Bits = 1 }),
		ofCell(cellRef, "a reference's text", func(c *api.Cell) { c.Init.Text = "x" }),
		ofCell(cellRef, "no reference", func(c *api.Cell) { c.Init.Kind = api.KLint }),
		ofCell(cellRef, "a kept reference", func(c *api.Cell) { c.Keep = true }),
		ofCell(cellRef, "a reference with an address", func(c *api.Cell) { c.Addr = "%ML0" }),
		ofCell(cellRef, "Sub of a reference", func(c *api.Cell) { c.Sub = true }),
		ofCell(cellRef, "Max of a reference", func(c *api.Cell) { c.Max = 1 }),
		ofCell(cellRef, "KRef and one", func(c *api.Cell) { c.Kind, c.Init.Kind = api.NumKind, api.NumKind }),
		ofCell(cellRef, "kind 255", func(c *api.Cell) { c.Kind, c.Init.Kind = 255, 255 }),
		ofCell(cellFloat, "another NaN", func(c *api.Cell) { c.Init.Bits++ }),
		ofCell(cellFloat, "an address of an LREAL", func(c *api.Cell) { c.Addr = "%ML0" }),
		ofCell(cellFloat, "Sub of an LREAL", func(c *api.Cell) { c.Sub = true }),
		ofCell(cellLong, "a text beyond MaxText", func(c *api.Cell) { c.Init.Text += "x" }),
		ofCell(cellTrigger, "Dir", func(c *api.Cell) { c.Dir = 1 }),
		ofCell(cellTrigger, "Hi", func(c *api.Cell) { c.Hi = most }),
	}
}

// manyOps is so many instructions ahead of a code's own ones.
func manyOps(n int) func(f *api.Flat) {
	return func(f *api.Flat) {
		f.Ops = append(slices.Repeat([]api.Op{{Code: api.IrReturn}}, n-len(f.Ops)), f.Ops...)
	}
}

// manyLoops is so many loops, the code's own ones too.
func manyLoops(n int) func(f *api.Flat) {
	return func(f *api.Flat) { f.Loops = append(f.Loops, make([]api.Loop, n-len(f.Loops))...) }
}

func wrongCodes() []wrong {
	const f, b, p = codeFunction, codeBlock, codeProgram
	const c, l, n = api.ErrCode, api.ErrLong, api.ErrName
	return []wrong{
		ofCode(f, "no name", n, func(f *api.Flat) { f.Name = "" }),
		ofCode(f, "What 0", c, func(f *api.Flat) { f.What, f.Base = 0, -1 }),
		ofCode(f, "What 4", c, func(f *api.Flat) { f.What, f.Base = 4, -1 }),
		ofCode(f, "Cells -1", c, func(f *api.Flat) { f.Cells, f.Base = -1, -1 }),
		ofCode(f, "Cells beyond MaxCells", c, func(f *api.Flat) { f.Cells, f.Base = api.MaxCells+1, -1 }),
		ofCode(f, "Base -2", c, func(f *api.Flat) { f.Base = -2 }),
		ofCode(f, "a base behind the cells", c, func(f *api.Flat) { f.Base = numCells - 2 }),
		ofCode(f, "the greatest base", c, func(f *api.Flat) { f.Base = most }),
		ofCode(f, "the least base", c, func(f *api.Flat) { f.Base = least }),
		ofCode(f, "a base without cells", c, func(f *api.Flat) { f.Base, f.Cells = numCells+1, 0 }),
		ofCode(f, "Regs -1", c, func(f *api.Flat) { f.Regs = -1 }),
		ofCode(f, "Regs 9", c, func(f *api.Flat) { f.Regs = 9 }),
		ofCode(f, "Slots -1", c, func(f *api.Flat) { f.Slots = -1 }),
		ofCode(f, "Slots beyond MaxSlots", c, func(f *api.Flat) { f.Slots = api.MaxSlots + 1 }),
		ofCode(f, "no instruction", c, func(f *api.Flat) { f.Ops, f.Loops = nil, nil }),
		ofCode(f, "the last one", c, func(f *api.Flat) { f.Ops[len(f.Ops)-1] = api.Op{Code: api.IrArg} }),
		ofCode(f, "the last one leads on", c, func(f *api.Flat) { f.Ops[len(f.Ops)-1] = api.Op{Code: api.IrUnless} }),
		ofCode(f, "Head -1", c, func(f *api.Flat) { f.Loops[0].Head = -1 }),
		ofCode(f, "Head above End", c, func(f *api.Flat) { f.Loops[1].Head = 3 }),
		ofCode(f, "End behind the end", c, func(f *api.Flat) { f.Loops[2].End = 25 }),
		ofCode(f, "Times -1", c, func(f *api.Flat) { f.Loops[2].Times = -1 }),
		ofCode(f, "Times beyond MaxTimes", c, func(f *api.Flat) { f.Loops[2].Times++ }),
		ofCode(f, "instructions", l, manyOps(api.MaxCode+1)),
		ofCode(f, "loops", l, manyLoops(api.MaxCode+1)),
		ofOp(f, 0, "a register", func(o *api.Op) { o.A = 3 }),
		ofOp(f, 1, "a Value", func(o *api.Op) { o.Value.Kind = api.KBool }),
		ofOp(f, 15, "a place", func(o *api.Op) { o.B = 24 }),
		ofOp(f, 22, "a slot", func(o *api.Op) { o.B = 2 }),
		ofOp(f, 23, "IrReturn's A", func(o *api.Op) { o.A = 1 }),
		ofCode(b, "a long name", n, func(f *api.Flat) { f.Name = strings.Repeat("b", 25) }),
		ofCode(b, "a block's base", c, func(f *api.Flat) { f.Base = 0 }),
		ofCode(b, "Code 0", c, func(f *api.Flat) { f.Ops[0].Code = 0 }),
		// The function's 24 instructions stand ahead.
		ofCode(b, "instructions together", l, manyOps(api.MaxCode+1-24)),
		ofCode(b, "a block's loops", l, manyLoops(api.MaxCode+1)),
		ofOp(b, 0, "IrReturn's D", func(o *api.Op) { o.D = -1 }),
		ofCode(p, "a digit first", n, func(f *api.Flat) { f.Name = "1P" }),
		ofCode(p, "a program's base", c, func(f *api.Flat) { f.Base = 0 }),
		ofCode(p, "a program's instructions", l, manyOps(api.MaxCode+1-25)),
		ofOp(p, 0, "a program's slot", func(o *api.Op) { o.B = 1024 }),
		ofOp(p, 1, "a program's place", func(o *api.Op) { o.B = 2 }),
	}
}

func wrongJobs() []wrong {
	const j, n = api.ErrJob, api.ErrName
	many := func(n int) func(j *api.Job) {
		return func(j *api.Job) {
			j.Codes, j.Bases = slices.Repeat([]int{codeProgram}, n), make([]int, n)
		}
	}
	return []wrong{
		ofJob(0, "no name", n, func(j *api.Job) { j.Name = "" }),
		ofJob(0, "Interval -1", j, func(j *api.Job) { j.Interval = -1 }),
		ofJob(0, "the least Interval", j, func(j *api.Job) { j.Interval = least }),
		ofJob(0, "Single -2", j, func(j *api.Job) { j.Single = -2 }),
		ofJob(0, "Single of no cell", j, func(j *api.Job) { j.Single = numCells }),
		ofJob(0, "Single of an INT", j, func(j *api.Job) { j.Single = cellLevel }),
		ofJob(0, "the greatest Single", j, func(j *api.Job) { j.Single = most }),
		ofJob(0, "Priority -1", j, func(j *api.Job) { j.Priority = -1 }),
		ofJob(0, "Priority 65536", j, func(j *api.Job) { j.Priority++ }),
		ofJob(0, "Bound -1", j, func(j *api.Job) { j.Bound = -1 }),
		ofJob(0, "Bound beyond MaxBound", j, func(j *api.Job) { j.Bound++ }),
		ofJob(0, "fewer Bases", j, func(j *api.Job) { j.Bases = j.Bases[:1] }),
		ofJob(0, "more Bases", j, func(j *api.Job) { j.Codes = j.Codes[:1] }),
		ofJob(0, "Bases alone", j, func(j *api.Job) { j.Codes = nil }),
		ofJob(0, "33 programs", j, many(api.MaxRuns+1)),
		ofJob(0, "no code", j, func(j *api.Job) { j.Codes[0] = numCodes }),
		ofJob(0, "a code below 0", j, func(j *api.Job) { j.Codes[1] = -1 }),
		ofJob(0, "a function", j, func(j *api.Job) { j.Codes[1] = codeFunction }),
		ofJob(0, "a block", j, func(j *api.Job) { j.Codes[0] = codeBlock }),
		ofJob(0, "a base below 0", j, func(j *api.Job) { j.Bases[0] = -1 }),
		ofJob(0, "a base behind the cells", j, func(j *api.Job) { j.Bases[1] = numCells - 3 }),
		ofJob(0, "the greatest base", j, func(j *api.Job) { j.Bases[1] = most }),
		ofJob(1, "a name that is there", n, func(j *api.Job) { j.Name = "T" }),
		ofJob(1, "a name with a blank", n, func(j *api.Job) { j.Name = "u " }),
		ofJob(1, "Single of a reference", j, func(j *api.Job) { j.Single = cellRef }),
		ofJob(1, "Bases without Codes", j, func(j *api.Job) { j.Bases = []int{0} }),
	}
}

// P20.1: each sentence by itself.
func TestWrong(t *testing.T) {
	for _, x := range wrongs() {
		m := good()
		x.change(&m)
		if got := check(m); got != x.want || modelCheck(m) != x.want {
			t.Error(x.name, got, modelCheck(m), "not", x.want)
		}
		if b, why := image.Encode(m); why != x.want.why || len(b) != 0 {
			t.Error(x.name, why)
		}
	}
}

// P20.1: of two things that are wrong the one that stands first in the chapter is told.
func TestFirst(t *testing.T) {
	l := wrongs()
	// Some changes need what an other one takes away.
	both := func(a, b wrong) (m api.Image, can bool) {
		defer func() { can = recover() == nil }()
		m = good()
		b.change(&m)
		a.change(&m)
		return m, true
	}
	n := 0
	for i, a := range l {
		for _, b := range l[i+1:] {
			m, can := both(a, b)
			if !can {
				continue
			}
			n++
			if got, want := check(m), modelCheck(m); got != want {
				t.Error(a.name, "and", b.name, got, "not", want)
			}
			if got := check(m); got != a.want && a.want != b.want {
				// Unless the places of instructions have moved, or the last one is another one now
				if !strings.Contains(a.name+b.name, "instruction") && b.name != "the last one" {
					t.Error(a.name, "and", b.name, got)
				}
			}
		}
	}
	if n < len(l)*(len(l)-1)/2-500 {
		t.Error(n, len(l))
	}
}

// P20.1: what each sentence still allows.
func TestBounds(t *testing.T) {
	for name, change := range map[string]func(m *api.Image){
		"names": func(m *api.Image) {
			m.Name, m.Codes[0].Name, m.Jobs[0].Name = "a", strings.Repeat("Z", 24), "a1_"
		},
		"a word for a name": func(m *api.Image) { m.Name, m.Codes[1].Name = "PROGRAM", "INT" },
		"MaxCells": func(m *api.Image) {
			m.Cells = append(m.Cells, slices.Repeat([]api.Cell{{Kind: api.KRef, Init: ref(0)}}, api.MaxCells-numCells)...)
			m.Codes[0].Cells, m.Codes[0].Base = api.MaxCells, 0
			m.Codes[1].Cells = api.MaxCells
			m.Codes[2].Cells, m.Jobs[0].Bases = api.MaxCells, []int{0, 0}
		},
		"MaxPous": func(m *api.Image) {
			for len(m.Codes) < api.MaxPous {
				m.Codes = append(m.Codes, m.Codes[1])
			}
			m.Codes[0].Ops[17].B = api.MaxPous - 1
		},
		"MaxTasks": func(m *api.Image) {
			for i := len(m.Jobs); i < api.MaxTasks; i++ {
				m.Jobs = append(m.Jobs, api.Job{Name: string(rune('a' + i)), Single: -1})
			}
			m.Jobs[1].Name = "z"
		},
		"Lo is Hi": func(m *api.Image) { m.Cells[cellLevel].Hi = -3 },
		"bounds beyond the kind": func(m *api.Image) {
			m.Cells[cellLevel].Lo, m.Cells[cellLevel].Hi = least, most
		},
		"Hi of Init": func(m *api.Image) { m.Cells[cellLevel].Init = whole(api.KInt, 100) },
		"Max 254":    func(m *api.Image) { m.Cells[cellShort].Max = 254 },
		"Max 0": func(m *api.Image) {
			m.Cells[cellShort].Max, m.Cells[cellShort].Init.Text = 0, strings.Repeat("y", 254)
		},
		"Max 1": func(m *api.Image) { m.Cells[cellShort].Max, m.Cells[cellShort].Init.Text = 1, "y" },
		"memory without an address": func(m *api.Image) {
			m.Cells[cellMemory].Addr = ""
		},
		"an input that is kept": func(m *api.Image) { m.Cells[cellBool].Keep = true },
		"a function's frame":    func(m *api.Image) { m.Codes[0].Base = numCells - 3 },
		"a frame without cells": func(m *api.Image) { m.Codes[0].Base, m.Codes[0].Cells = numCells, 0 },
		"a frame's beginning":   func(m *api.Image) { m.Codes[0].Base, m.Codes[0].Cells = 0, numCells },
		"a function without a frame": func(m *api.Image) {
			m.Codes[0].Base, m.Codes[0].Cells = -1, api.MaxCells
		},
		"no registers and slots": func(m *api.Image) {
			m.Codes[2].Regs, m.Codes[2].Slots, m.Codes[2].Ops = 0, 0, []api.Op{{Code: api.IrFault, A: 1}}
		},
		"two codes of one name": func(m *api.Image) { m.Codes[0].Name = "P" },
		"MaxCode":               func(m *api.Image) { manyOps(api.MaxCode - 25)(&m.Codes[2]) },
		"loops": func(m *api.Image) {
			for i := range m.Codes {
				manyLoops(api.MaxCode)(&m.Codes[i])
			}
		},
		"Interval": func(m *api.Image) { m.Jobs[0].Interval = most },
		"both": func(m *api.Image) {
			m.Jobs[0].Single = cellBool
		},
		"neither":    func(m *api.Image) { m.Jobs[0].Interval = 0 },
		"Priority 0": func(m *api.Image) { m.Jobs[0].Priority, m.Jobs[0].Bound = 0, 0 },
		"32 programs": func(m *api.Image) {
			m.Jobs[0].Codes, m.Jobs[0].Bases = slices.Repeat([]int{codeProgram}, api.MaxRuns), make([]int, api.MaxRuns)
		},
		"the last base": func(m *api.Image) { m.Jobs[0].Bases = []int{numCells - 4, 0} },
		"a program without cells": func(m *api.Image) {
			m.Codes[2].Cells, m.Jobs[0].Bases = 0, []int{numCells, 0}
		},
		"names that differ in letters' size": func(m *api.Image) { m.Jobs[1].Name = "t" },
	} {
		m := good()
		change(&m)
		if x := check(m); x != (refusal{}) || modelCheck(m) != x {
			t.Error(name, x, modelCheck(m))
		}
	}
}

// Each kind: as many bits as chapter 4.2 has, or none; Sub of integers alone.
func TestKinds(t *testing.T) {
	letters := map[int]string{1: "X", 8: "B", 16: "W", 32: "D", 64: "L"}
	for k := api.KNone; k < api.NumKind+2; k++ {
		m := api.Image{Name: "M", Cells: []api.Cell{{Kind: k, Init: api.Value{Kind: k}}}}
		is := k >= api.KBool && k <= api.KRef
		if x := check(m); (x.why == api.OK) != is {
			t.Error(k, x)
		}
		for size, letter := range letters {
			m.Cells[0].Addr = "%M" + letter + "1"
			if size == 1 {
				m.Cells[0].Addr += ".1"
			}
			if x := check(m); (x.why == api.OK) != (is && bits[k] == size) {
				t.Error(k, letter, x)
			}
		}
		m.Cells[0].Addr, m.Cells[0].Sub = "", true
		if x := check(m); (x.why == api.OK) != (k >= api.KSint && k <= api.KUlint) {
			t.Error(k, x)
		}
		m.Cells[0].Sub, m.Cells[0].Keep = false, true
		if x := check(m); (x.why == api.OK) != (is && k != api.KRef) {
			t.Error(k, x)
		}
		m.Cells[0].Keep, m.Cells[0].Max = false, 1
		if x := check(m); (x.why == api.OK) != (k == api.KString) {
			t.Error(k, x)
		}
	}
}

// holder is a code with an instruction at place 2 of 5, and a good image with it.
func holder(o api.Op, regs, slots int) api.Image {
	m := good()
	back := api.Op{Code: api.IrReturn}
	m.Codes[codeBlock] = api.Flat{Name: "B", What: api.PouBlock, Base: -1, Regs: regs, Slots: slots, Ops: []api.Op{back, back, o, back, back}}
	return m
}

// P20.1, 20.2: each field of each instruction at its bounds, one below and one above, and those that must be 0.
func TestFields(t *testing.T) {
	r := rand.New(rand.NewSource(1))
	look := func(o api.Op, regs, slots int) {
		m := holder(o, regs, slots)
		want := refusal{codeBlock, 2, api.ErrCode}
		if modelDoes(o, m.Codes[codeBlock], numCodes) {
			want = refusal{}
		}
		if got := check(m); got != want {
			t.Fatal(o, regs, slots, got, "not", want)
		}
	}
	for code := 1; code < api.NumIr; code++ {
		for _, x := range [][2]int{{1, 1}, {3, 2}, {api.MaxRegs, api.MaxSlots}} {
			f := holder(api.Op{}, x[0], x[1]).Codes[codeBlock]
			fine := someOp(r, code, f, 5, numCodes)
			if check(holder(fine, x[0], x[1])) != (refusal{}) {
				t.Fatal(fine)
			}
			for i := range 6 {
				o := fine
				field := []*int{&o.A, &o.B, &o.C, &o.D, &o.Lo, &o.Hi}[i]
				var from, to int
				if i < 4 {
					from, to = opRows[code].fields[i].bounds(f, 5, numCodes)
				}
				for _, n := range []int{from - 1, from, from + 1, to - 1, to, to + 1, -1, 0, 1, least, most, 255, 256, 1<<32 + from, 254, -255, -256} {
					*field = n
					look(o, x[0], x[1])
				}
				for _, lo := range []int{least, least + 1, -256, -1, 0, 1, most - 255, most} {
					for _, apart := range []int{-1, 0, 1, 254, 255, 256, 257, most} {
						o = fine
						o.Lo, o.Hi = lo, lo+apart
						look(o, x[0], x[1])
					}
				}
			}
			for _, v := range []api.Value{{}, {Kind: 1}, {Bits: 1}, {Text: "x"}, {Kind: 1, Bits: 1}, {Kind: 1, Bits: 2}, {Kind: api.KRef}, {Kind: api.KRef, Bits: 1}, {Kind: api.KRef, Text: "x"},
				{Kind: 21}, {Kind: 255}, text(strings.Repeat("x", 254)), text(strings.Repeat("x", 255)), whole(api.KSint, 127), whole(api.KSint, 128), value.Lreal(-0.5)} {
				o := fine
				o.Value = v
				look(o, x[0], x[1])
			}
		}
		// Without registers and slots
		look(someOp(r, code, api.Flat{Regs: 1, Slots: 1}, 5, numCodes), 0, 1)
		look(someOp(r, code, api.Flat{Regs: 1, Slots: 1}, 5, numCodes), 1, 0)
	}
	for _, code := range []int{-1, 0, api.NumIr, 1<<32 + 1, least, most} {
		look(api.Op{Code: code}, 8, 1024)
	}
}

// The table that the tests above hold 20.2 against, row by row, at some numbers.
func TestTable(t *testing.T) {
	for _, x := range []struct {
		o  api.Op
		is bool
	}{
		{api.Op{Code: api.IrConst, A: 2, Value: whole(api.KInt, 5)}, true}, {api.Op{Code: api.IrConst, Value: ref(0)}, true}, {api.Op{Code: api.IrConst, Value: ref(1)}, false},
		{api.Op{Code: api.IrConst}, false}, {api.Op{Code: api.IrConst, A: 3, Value: ref(0)}, false}, {api.Op{Code: api.IrConst, B: 1, Value: ref(0)}, false},
		{api.Op{Code: api.IrMove, A: 2, B: 2}, true}, {api.Op{Code: api.IrMove, B: 9}, false}, {api.Op{Code: api.IrMove, C: 1}, false},
		{api.Op{Code: api.IrLoad, B: 1, C: 4096}, true}, {api.Op{Code: api.IrLoad, B: 1, C: 4097}, false}, {api.Op{Code: api.IrStore, B: 0}, false}, {api.Op{Code: api.IrRef, B: 4}, false}, {api.Op{Code: api.IrRef, B: 3, D: 1}, false},
		{api.Op{Code: api.IrLoadX, B: 3, D: 2, Lo: 1, Hi: 256}, true}, {api.Op{Code: api.IrStoreX, B: 3, D: 2, Lo: 1, Hi: 257}, false}, {api.Op{Code: api.IrRefX, B: 3, D: 3}, false}, {api.Op{Code: api.IrRefX, B: 3, Lo: 1}, false},
		{api.Op{Code: api.IrLoadX, B: 1, Lo: least, Hi: most}, false}, {api.Op{Code: api.IrLoadX, B: 1, Lo: -128, Hi: 127}, true},
		{api.Op{Code: api.IrDo, D: 14}, true}, {api.Op{Code: api.IrDo, D: 15}, false}, {api.Op{Code: api.IrDo}, false}, {api.Op{Code: api.IrTurn, D: 15}, true}, {api.Op{Code: api.IrTurn, D: 14}, false}, {api.Op{Code: api.IrTurn, D: 17}, false},
		{api.Op{Code: api.IrConv, D: 19}, true}, {api.Op{Code: api.IrConv, D: 20}, false}, {api.Op{Code: api.IrConv}, false}, {api.Op{Code: api.IrArg, A: 2}, true}, {api.Op{Code: api.IrArg, A: 3}, false},
		{api.Op{Code: api.IrStd, C: 16, D: 255}, true}, {api.Op{Code: api.IrStd, C: 17}, false}, {api.Op{Code: api.IrStd, D: 256}, false}, {api.Op{Code: api.IrStd, B: 1}, false},
		{api.Op{Code: api.IrCheck, Lo: least, Hi: most}, true}, {api.Op{Code: api.IrCheck, Lo: 1}, false}, {api.Op{Code: api.IrText, Hi: 254}, true}, {api.Op{Code: api.IrText, Hi: 255}, false}, {api.Op{Code: api.IrText, Lo: 1, Hi: 2}, false}, {api.Op{Code: api.IrText, Lo: -1}, false},
		{api.Op{Code: api.IrJump, B: 4}, true}, {api.Op{Code: api.IrJump, B: 5}, false}, {api.Op{Code: api.IrJump, A: 1}, false}, {api.Op{Code: api.IrUnless, A: 2, B: 4}, true}, {api.Op{Code: api.IrUnless, A: 3}, false}, {api.Op{Code: api.IrUnless, B: -1}, false},
		{api.Op{Code: api.IrCall, B: 2, C: 1, D: 4096}, true}, {api.Op{Code: api.IrCall, B: 3, C: 1}, false}, {api.Op{Code: api.IrCall}, false}, {api.Op{Code: api.IrCall, C: 1, D: 4097}, false}, {api.Op{Code: api.IrCall, A: 1, C: 1}, false},
		{api.Op{Code: api.IrBlock, B: 10, C: 3, D: 4096}, true}, {api.Op{Code: api.IrBlock, B: 11, C: 1}, false}, {api.Op{Code: api.IrBlock, C: 1}, false}, {api.Op{Code: api.IrBlock, B: 1}, false},
		{api.Op{Code: api.IrFault, A: 10}, true}, {api.Op{Code: api.IrFault}, false}, {api.Op{Code: api.IrFault, A: 11}, false}, {api.Op{Code: api.IrReturn}, true}, {api.Op{Code: api.IrReturn, Hi: 1}, false},
		{api.Op{Code: api.IrSpill, A: 2, B: 1}, true}, {api.Op{Code: api.IrSpill, A: 2, B: 2}, false}, {api.Op{Code: api.IrFill, A: 3}, false}, {api.Op{Code: api.IrFill, A: 2, B: 1, C: 1}, false},
		{api.Op{Code: 24}, false}, {api.Op{}, false},
	} {
		m := holder(x.o, 3, 2)
		if modelDoes(x.o, m.Codes[codeBlock], numCodes) != x.is || (check(m).why == api.OK) != x.is {
			t.Error(x.o, x.is, check(m))
		}
	}
}

// The chapter's third example.
func TestExample3(t *testing.T) {
	m := holder(api.Op{Code: api.IrMove, B: 9}, 2, 0)
	if x := check(m); x != (refusal{codeBlock, 2, api.ErrCode}) {
		t.Error(x)
	}
	m = good()
	m.Jobs[1].Single = cellOut
	if x := check(m); x != (refusal{1, 0, api.ErrJob}) {
		t.Error(x)
	}
}

// Images by chance, with some of their numbers changed, are refused as the sentences say.
func TestModelCheck(t *testing.T) {
	r := rand.New(rand.NewSource(2))
	refused := map[api.Errno]int{}
	for range 60000 {
		m := some(r)
		if x := check(m); x != (refusal{}) {
			t.Fatal(m, x)
		}
		for range 1 + r.Intn(2) {
			spoil(r, &m)
		}
		got, want := check(m), modelCheck(m)
		if got != want {
			t.Fatal(m, got, want)
		}
		refused[got.why]++
	}
	for _, why := range []api.Errno{api.OK, api.ErrName, api.ErrCode, api.ErrCell, api.ErrJob} {
		if refused[why] < 1000 {
			t.Error(why, refused)
		}
	}
}

// spoil changes something of an image.
func spoil(r *rand.Rand, m *api.Image) {
	var numbers []*int
	texts := []*string{&m.Name}
	var kinds []*api.Kind
	for i := range m.Cells {
		c := &m.Cells[i]
		numbers = append(numbers, &c.Lo, &c.Hi, &c.Max, &c.Dir)
		texts = append(texts, &c.Addr, &c.Init.Text)
		kinds = append(kinds, &c.Kind, &c.Init.Kind)
	}
	for i := range m.Codes {
		f := &m.Codes[i]
		numbers = append(numbers, &f.What, &f.Cells, &f.Base, &f.Regs, &f.Slots)
		texts = append(texts, &f.Name)
		for i := range f.Ops {
			o := &f.Ops[i]
			numbers = append(numbers, &o.Code, &o.A, &o.B, &o.C, &o.D, &o.Lo, &o.Hi)
			kinds = append(kinds, &o.Value.Kind)
		}
		for i := range f.Loops {
			numbers = append(numbers, &f.Loops[i].Head, &f.Loops[i].End, &f.Loops[i].Times)
		}
	}
	for i := range m.Jobs {
		j := &m.Jobs[i]
		numbers = append(numbers, &j.Interval, &j.Single, &j.Priority, &j.Bound)
		texts = append(texts, &j.Name)
		for i := range j.Codes {
			numbers = append(numbers, &j.Codes[i], &j.Bases[i])
		}
	}
	switch n := r.Intn(10); {
	case n == 0:
		*pick(r, texts...) = pick(r, "", "A", "B", "%IX0.0", "%MW1", "x", "1", strings.Repeat("a", 25))
	case n == 1 && len(kinds) > 0:
		*pick(r, kinds...) = api.Kind(r.Intn(24))
	case len(numbers) > 0:
		*pick(r, numbers...) = pick(r, least, -2, -1, 0, 1, 2, 3, 5, 8, 9, 16, 20, 22, 23, 24, 254, 255, 256, 4096, 65536, 1<<20+1, most)
	}
}
