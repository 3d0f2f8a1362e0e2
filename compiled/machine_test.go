package compiled

import (
	"slices"

	"relay/api"
	"relay/blocks"
	"relay/stdlib"
	"relay/value"
)

// machine does instructions as chapter 21 has them, with steps enough. A register that was never set is odd, and told.
type machine struct {
	codes []api.Flat
	cells []api.Cell
	mem   []api.Value
	now   int
	steps int
	deep  int
	unset bool // a register was read that was not set
}

// mostSteps is more than any run of a plant takes that ends.
const mostSteps = 1 << 24

// stopped is a fault that stops a run.
type stopped int

func must(is bool, fault int) {
	if !is {
		panic(stopped(fault))
	}
}

// run is what a code comes to: the cells, the steps, the fault, and whether a register was read that was not set.
func run(codes []api.Flat, fn, base, now int, cells []api.Cell, mem []api.Value) (after []api.Value, steps, fault int, unset bool) {
	m := &machine{codes: codes, cells: cells, mem: slices.Clone(mem), now: now}
	defer func() {
		if why, is := recover().(stopped); is {
			after, steps, fault, unset = nil, m.steps, int(why), m.unset
		}
	}()
	m.invoke(fn, base)
	return m.mem, m.steps, 0, m.unset
}

// invocation is a code that runs over cells from a base on.
type invocation struct {
	m    *machine
	base int
	regs map[int]api.Value
	slot map[int]api.Value
	args []api.Value
}

func (m *machine) invoke(fn, base int) {
	must(m.deep < api.MaxCalls, api.FaultSteps)
	m.deep++
	i := &invocation{m: m, base: base, regs: map[int]api.Value{}, slot: map[int]api.Value{}}
	for at := 0; ; {
		must(m.steps < mostSteps, api.FaultSteps)
		o := m.codes[fn].Ops[at]
		m.steps++
		if o.Code == api.IrReturn {
			break
		}
		at = i.step(o, at)
	}
	m.deep--
}

func (i *invocation) reg(n int) api.Value {
	v, is := i.regs[n]
	i.m.unset = i.m.unset || !is
	return v
}

// cell is the number of a cell that must be there.
func (i *invocation) cell(area, n int) int {
	switch area {
	case api.AreaThis:
		n += i.base
	case api.AreaRef:
		v := i.m.mem[i.cell(api.AreaThis, n)]
		must(v.Kind == api.KRef, api.FaultRef)
		n = int(v.Bits)
	}
	must(n >= 0 && n < len(i.m.mem), api.FaultRef)
	return n
}

// element is the number of the cell of an element.
func (i *invocation) element(o api.Op) int {
	n, is := value.Number(i.reg(o.D))
	must(is && n >= o.Lo && n <= o.Hi, api.FaultIndex)
	first := i.cell(o.B, o.C)
	must(first+n-o.Lo < len(i.m.mem), api.FaultRef)
	return first + n - o.Lo
}

func (i *invocation) store(cell int, v api.Value) {
	must(v.Kind == i.m.cells[cell].Kind && (v.Kind == api.KRef || value.May(v)), api.FaultKind)
	i.m.mem[cell] = v
}

func sound(v api.Value, fault int) api.Value {
	must(fault == 0, fault)
	return v
}

// step does an instruction, and tells where it goes on.
func (i *invocation) step(o api.Op, at int) int {
	switch o.Code {
	case api.IrConst:
		i.regs[o.A] = o.Value
	case api.IrMove:
		i.regs[o.A] = i.reg(o.B)
	case api.IrLoad:
		i.regs[o.A] = i.m.mem[i.cell(o.B, o.C)]
	case api.IrLoadX:
		i.regs[o.A] = i.m.mem[i.element(o)]
	case api.IrStore:
		i.store(i.cell(o.B, o.C), i.reg(o.A))
	case api.IrStoreX:
		i.store(i.element(o), i.reg(o.A))
	case api.IrRef:
		i.regs[o.A] = api.Value{Kind: api.KRef, Bits: uint64(i.cell(o.B, o.C))}
	case api.IrRefX:
		i.regs[o.A] = api.Value{Kind: api.KRef, Bits: uint64(i.element(o))}
	case api.IrDo:
		i.regs[o.A] = sound(value.Reckon(o.D, i.reg(o.B), i.reg(o.C)))
	case api.IrTurn:
		i.regs[o.A] = sound(value.Turn(o.D, i.reg(o.B)))
	case api.IrConv:
		i.regs[o.A] = sound(value.Convert(api.Kind(o.D), i.reg(o.B)))
	case api.IrArg:
		must(len(i.args) < api.MaxArgs, api.FaultKind)
		i.args = append(i.args, i.reg(o.A))
	case api.IrStd:
		first := len(i.args) - o.C
		i.regs[o.A] = sound(stdlib.Call(o.D, i.args[first:]))
		i.args = i.args[:first]
	case api.IrCheck:
		n, is := value.Number(i.reg(o.A))
		must(is && n >= o.Lo && n <= o.Hi, api.FaultRange)
	case api.IrText:
		must(len(i.reg(o.A).Text) <= o.Hi, api.FaultText)
	case api.IrJump:
		return o.B
	case api.IrUnless:
		v := i.reg(o.A)
		must(v.Kind == api.KBool, api.FaultKind)
		if v == value.Bool(false) {
			return o.B
		}
	case api.IrCall:
		i.m.invoke(o.B, i.first(o))
	case api.IrBlock:
		first, size := i.cell(o.C, o.D), blocks.Size(o.B)
		after, fault := blocks.Step(o.B, i.m.mem[first:first+size], i.m.now)
		must(fault == 0, fault)
		copy(i.m.mem[first:], after)
	case api.IrFault:
		panic(stopped(o.A))
	case api.IrSpill:
		i.slot[o.B] = i.reg(o.A)
	case api.IrFill:
		v, is := i.slot[o.B]
		i.m.unset = i.m.unset || !is
		i.regs[o.A] = v
	default:
		panic(stopped(api.FaultKind))
	}
	return at + 1
}

// first is the first cell of what is called; a code without cells may begin behind the last one.
func (i *invocation) first(o api.Op) int {
	if i.m.codes[o.B].Cells > 0 {
		return i.cell(o.C, o.D)
	}
	if o.C == api.AreaThis {
		return i.base + o.D
	}
	return o.D
}
