package image_test

import (
	"math/rand"
	"strings"
	"testing"

	"relay/api"
	"relay/image"
	"relay/value"
)

func whole(k api.Kind, n int) api.Value { return api.Value{Kind: k, Bits: uint64(n)} }

func text(s string) api.Value { return api.Value{Kind: api.KString, Text: s} }

func ref(n int) api.Value { return api.Value{Kind: api.KRef, Bits: uint64(n)} }

// The numbers of cells and codes of a good image.
const (
	cellBool = iota
	cellLevel
	cellShort
	cellOut
	cellMemory
	cellRef
	cellFloat
	cellLong
	cellTrigger
	numCells
)

const (
	codeFunction = iota
	codeBlock
	codeProgram
	numCodes
)

// good is an image that may be, with something of everything.
func good() api.Image {
	return api.Image{
		Name: "Main_1",
		Cells: []api.Cell{
			cellBool:    {Kind: api.KBool, Init: value.Bool(true), Dir: 1, Addr: "%IX0.7"},
			cellLevel:   {Kind: api.KInt, Sub: true, Lo: -3, Hi: 100, Init: whole(api.KInt, -3), Keep: true},
			cellShort:   {Kind: api.KString, Max: 4, Init: text("a\x00'\xff")},
			cellOut:     {Kind: api.KInt, Init: whole(api.KInt, -1), Dir: 2, Addr: "%QW1"},
			cellMemory:  {Kind: api.KLword, Init: whole(api.KLword, -1), Addr: "%ML9999"},
			cellRef:     {Kind: api.KRef, Init: ref(0)},
			cellFloat:   {Kind: api.KLreal, Init: api.Value{Kind: api.KLreal, Bits: 0x7ff8000000000001}, Keep: true},
			cellLong:    {Kind: api.KString, Init: text(strings.Repeat("x", api.MaxText))},
			cellTrigger: {Kind: api.KBool, Init: value.Bool(false)},
		},
		Codes: []api.Flat{
			codeFunction: {
				Name: "F", What: api.PouFunction, Cells: 3, Base: 2, Regs: 3, Slots: 2, Ops: everyOp(),
				Loops: []api.Loop{{Head: 0, End: 7, Times: 5}, {Head: 2, End: 2, Times: 0}, {Head: 23, End: 24, Times: api.MaxTimes}},
			},
			codeBlock:   {Name: "b", What: api.PouBlock, Base: -1, Ops: []api.Op{{Code: api.IrReturn}}},
			codeProgram: {Name: "P", What: api.PouProgram, Cells: 4, Base: -1, Regs: 8, Slots: 1024, Ops: []api.Op{{Code: api.IrFill, A: 7, B: 1023}, {Code: api.IrJump}}},
		},
		Jobs: []api.Job{
			{Name: "T", Interval: 1 << 40, Single: -1, Priority: 65535, Codes: []int{2, 2}, Bases: []int{0, 5}, Bound: api.MaxBound},
			{Name: "u", Single: cellTrigger},
		},
	}
}

// everyOp is an instruction of each Code, and IrReturn; they are of a code with 3 registers and 2 slots.
func everyOp() []api.Op {
	return []api.Op{
		{Code: api.IrConst, A: 2, Value: text("abc")}, {Code: api.IrMove, A: 1, B: 2}, {Code: api.IrLoad, A: 1, B: 1, C: 4}, {Code: api.IrStore, A: 2, B: 2, C: 0},
		{Code: api.IrLoadX, A: 1, B: 3, C: 9, D: 2, Lo: -5, Hi: 250}, {Code: api.IrStoreX, B: 1, Lo: 1, Hi: 1}, {Code: api.IrRef, B: 1}, {Code: api.IrRefX, A: 1, B: 2, C: 3, D: 2, Lo: 0, Hi: 9},
		{Code: api.IrDo, A: 2, B: 1, C: 1, D: api.OpGe}, {Code: api.IrTurn, A: 1, B: 1, D: api.OpNot}, {Code: api.IrConv, A: 2, B: 1, D: int(api.KString)}, {Code: api.IrArg, A: 2},
		{Code: api.IrStd, A: 1, C: 16, D: 255}, {Code: api.IrCheck, A: 1, Lo: -7, Hi: 7}, {Code: api.IrText, A: 2, Hi: 254}, {Code: api.IrJump, B: 16}, {Code: api.IrUnless, A: 1, B: 23},
		{Code: api.IrCall, B: 2, C: 3, D: 4096}, {Code: api.IrBlock, B: 10, C: 1, D: 7}, {Code: api.IrFault, A: 10}, {Code: api.IrReturn}, {Code: api.IrSpill, A: 1, B: 1}, {Code: api.IrFill, A: 2},
		{Code: api.IrReturn},
	}
}

// refusal is what Check answers.
type refusal struct {
	number, place int
	why           api.Errno
}

func check(m api.Image) refusal {
	number, place, why := image.Check(m)
	return refusal{number, place, why}
}

// encoded is the bytes of an image that may be.
func encoded(t *testing.T, m api.Image) []byte {
	t.Helper()
	b, why := image.Encode(m)
	if why != api.OK {
		t.Fatal(m, why)
	}
	return b
}

// decoded is the image of bytes that must be one.
func decoded(t *testing.T, b []byte) api.Image {
	t.Helper()
	m, at, why := image.Decode(b)
	if at != 0 || why != api.OK {
		t.Fatal(at, why)
	}
	return m
}

// pick is one of several things, by chance.
func pick[T any](r *rand.Rand, l ...T) T { return l[r.Intn(len(l))] }

// some is an image by chance that may be.
func some(r *rand.Rand) api.Image {
	m := api.Image{Name: pick(r, "M", "relay_2", "A23456789012345678901234")}
	for range r.Intn(8) {
		m.Cells = append(m.Cells, someCell(r, len(m.Cells)))
	}
	for range r.Intn(4) {
		m.Codes = append(m.Codes, api.Flat{Name: pick(r, "F", "g", "H_1")})
	}
	for i := range m.Codes {
		someCode(r, &m.Codes[i], len(m.Cells), len(m.Codes))
	}
	for i := range r.Intn(4) {
		m.Jobs = append(m.Jobs, someJob(r, m, i))
	}
	return m
}

func someCell(r *rand.Rand, i int) api.Cell {
	k := api.Kind(1 + r.Intn(int(api.KRef)))
	c := api.Cell{Kind: k, Init: api.Value{Kind: k}, Keep: k != api.KRef && r.Intn(2) == 0}
	if k >= api.KSint && k <= api.KUlint && r.Intn(2) == 0 {
		c.Sub, c.Lo, c.Hi = true, -r.Intn(2), r.Intn(5)
	}
	if k == api.KString {
		c.Max = pick(r, 0, 3, api.MaxText)
		c.Init.Text = pick(r, "", "abc")
	}
	letter, is := map[api.Kind]string{api.KBool: "X", api.KByte: "B", api.KInt: "W", api.KUdint: "D", api.KLint: "L"}[k]
	if is && !c.Sub && r.Intn(2) == 0 {
		c.Dir = r.Intn(3)
		c.Addr = "%" + string("MIQ"[c.Dir]) + letter + string(rune('0'+i))
		if k == api.KBool {
			c.Addr += ".3"
		}
	}
	return c
}

func someCode(r *rand.Rand, f *api.Flat, cells, codes int) {
	f.What, f.Cells, f.Base, f.Regs, f.Slots = 1+r.Intn(3), r.Intn(cells+1), -1, 1+r.Intn(8), 1+r.Intn(5)
	if f.What == api.PouFunction && r.Intn(2) == 0 {
		f.Base = r.Intn(cells - f.Cells + 1)
	}
	n := 1 + r.Intn(9)
	for range n - 1 {
		f.Ops = append(f.Ops, someOp(r, 1+r.Intn(23), *f, n, codes))
	}
	f.Ops = append(f.Ops, someOp(r, pick(r, api.IrJump, api.IrFault, api.IrReturn), *f, n, codes))
	for range r.Intn(3) {
		a, b := r.Intn(n+1), r.Intn(n+1)
		f.Loops = append(f.Loops, api.Loop{Head: min(a, b), End: max(a, b), Times: pick(r, 0, 7, api.MaxTimes)})
	}
}

// someOp is an instruction of a Code that may be, in a code of n ones, beside so many codes.
func someOp(r *rand.Rand, code int, f api.Flat, n, codes int) api.Op {
	o := api.Op{Code: code}
	row := opRows[code]
	for i, field := range []*int{&o.A, &o.B, &o.C, &o.D} {
		least, most := row.fields[i].bounds(f, n, codes)
		*field = least + r.Intn(most-least+1)
	}
	switch row.reach {
	case "array":
		o.Lo = r.Intn(9) - 4
		o.Hi = o.Lo + r.Intn(api.MaxArray)
	case "rising":
		o.Lo = r.Intn(9) - 4
		o.Hi = o.Lo + r.Intn(5)
	case "text":
		o.Hi = r.Intn(api.MaxText + 1)
	}
	if code == api.IrConst {
		o.Value = pick(r, value.Bool(true), whole(api.KSint, -5), text("ab"), ref(0), value.Lreal(0.5))
	}
	return o
}

func someJob(r *rand.Rand, m api.Image, i int) api.Job {
	j := api.Job{Name: string(rune('A' + i)), Interval: r.Intn(9), Single: -1, Priority: r.Intn(9), Bound: r.Intn(9)}
	for n, c := range m.Cells {
		if c.Kind == api.KBool && r.Intn(2) == 0 {
			j.Single = n
		}
	}
	for n, f := range m.Codes {
		if f.What == api.PouProgram && r.Intn(3) > 0 {
			j.Codes = append(j.Codes, n)
			j.Bases = append(j.Bases, r.Intn(len(m.Cells)-f.Cells+1))
		}
	}
	return j
}
