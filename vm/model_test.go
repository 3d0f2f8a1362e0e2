package vm_test

import (
	"math/rand"
	"slices"
	"testing"

	"relay/api"
	"relay/blocks"
	"relay/ir"
	"relay/listing"
	"relay/stdlib"
	"relay/value"
	"relay/vm"
)

// model does runs sentence by sentence, as the chapter has them: invocations are calls within one another here, and registers stand in maps.
type model struct {
	call
	steps int
	deep  int
}

// halt is a fault that stops a run.
type halt int

func must(is bool, fault int) {
	if !is {
		panic(halt(fault))
	}
}

func holds(v api.Value, from, to api.Kind) bool {
	return v.Kind >= from && v.Kind <= to && value.May(v)
}

func among(n, count int) bool { return 0 <= n && n < count }

// modelRun is what the chapter says of a call of Run.
func modelRun(c call) (o outcome) {
	x := &model{call: c}
	x.mem = slices.Clone(c.mem)
	defer func() {
		if why, is := recover().(halt); is {
			o = outcome{nil, x.steps, int(why)}
		}
	}()
	must(among(c.fn, len(c.codes)), api.FaultKind)
	for _, f := range c.codes {
		must(among(f.Regs, 65537) && among(f.Slots, 1025), api.FaultKind)
	}
	must(len(c.mem) == len(c.cells), api.FaultKind)
	for i, v := range c.mem {
		must(c.cells[i].Kind == v.Kind && (value.May(v) || v.Kind == api.KRef), api.FaultKind)
	}
	must(among(c.now, 1<<62+1), api.FaultKind)
	must(among(c.base, len(c.cells)+1), api.FaultRef)
	must(c.most >= 0, api.FaultSteps)
	x.invoke(c.codes[c.fn], c.base)
	return outcome{x.mem, x.steps, 0}
}

// running is an invocation.
type running struct {
	*model
	code  api.Flat
	base  int
	regs  map[int]api.Value
	slots map[int]api.Value
	args  []api.Value
}

func (x *model) invoke(code api.Flat, base int) {
	x.deep++
	i := &running{x, code, base, map[int]api.Value{}, map[int]api.Value{}, nil}
	at := 0
	for at >= 0 {
		must(x.steps < x.most, api.FaultSteps)
		must(among(at, len(code.Ops)), api.FaultKind)
		x.steps++
		at = i.step(code.Ops[at], at)
	}
	x.deep--
}

// place is the number of the cell (area, n).
func (i *running) place(area, n int) int {
	switch area {
	case api.AreaThis:
		return i.base + n
	case api.AreaGlobal:
		return n
	}
	must(area == api.AreaRef && among(i.base+n, len(i.mem)), api.FaultRef)
	v := i.mem[i.base+n]
	must(v.Kind == api.KRef && v.Bits < 1<<63, api.FaultRef)
	return int(v.Bits)
}

func (i *running) cell(o api.Op) int {
	if o.Code != api.IrLoadX && o.Code != api.IrStoreX && o.Code != api.IrRefX {
		n := i.place(o.B, o.C)
		must(among(n, len(i.mem)), api.FaultRef)
		return n
	}
	d := i.regs[o.D]
	must(holds(d, api.KSint, api.KUlint), api.FaultKind)
	n, is := value.Number(d)
	must(is && o.Lo <= n && n <= o.Hi, api.FaultIndex)
	first := i.place(o.B, o.C)
	must(among(first, len(i.mem)), api.FaultRef)
	for ; n > o.Lo; n-- {
		first++
		must(among(first, len(i.mem)), api.FaultRef)
	}
	return first
}

func sound(v api.Value, fault int) api.Value {
	must(fault == 0, fault)
	return v
}

// step does an instruction, and tells where it goes on; -1 at the end.
func (i *running) step(o api.Op, at int) int {
	for _, reg := range ir.Uses(o) {
		must(among(reg, i.code.Regs), api.FaultKind)
	}
	if zero := (api.Op{Code: o.Code}); ir.Gives(zero) == 0 {
		must(among(o.A, i.code.Regs), api.FaultKind)
	}
	if o.Code == api.IrSpill || o.Code == api.IrFill {
		must(among(o.B, i.code.Slots), api.FaultKind)
	}
	switch o.Code {
	case api.IrJump:
		return behind(o.B)
	case api.IrUnless:
		v := i.regs[o.A]
		must(holds(v, api.KBool, api.KBool), api.FaultKind)
		if v.Bits == 0 {
			return behind(o.B)
		}
	case api.IrReturn:
		return -1
	case api.IrFault:
		must(among(o.A-1, 10), api.FaultKind)
		panic(halt(o.A))
	case api.IrCall:
		must(among(o.B, len(i.codes)), api.FaultKind)
		must(i.deep < 16, api.FaultSteps)
		n, end := i.place(o.C, o.D), len(i.mem)
		if i.codes[o.B].Cells < 1 {
			end++
		}
		must(among(n, end), api.FaultRef)
		i.invoke(i.codes[o.B], n)
	default:
		i.plain(o)
	}
	return at + 1
}

// behind is a place to which a jump leads; those below 0 are none, as those far behind the end are.
func behind(place int) int {
	if place < 0 {
		return 1<<63 - 1
	}
	return place
}

// plain does an instruction that goes on behind itself.
func (i *running) plain(o api.Op) {
	switch o.Code {
	case api.IrConst:
		i.regs[o.A] = o.Value
	case api.IrMove:
		i.regs[o.A] = i.regs[o.B]
	case api.IrSpill:
		i.slots[o.B] = i.regs[o.A]
	case api.IrFill:
		i.regs[o.A] = i.slots[o.B]
	case api.IrLoad, api.IrLoadX:
		i.regs[o.A] = i.mem[i.cell(o)]
	case api.IrRef, api.IrRefX:
		i.regs[o.A] = api.Value{Kind: api.KRef, Bits: uint64(i.cell(o))}
	case api.IrStore, api.IrStoreX:
		n, v := i.cell(o), i.regs[o.A]
		must(v.Kind == i.cells[n].Kind && (v.Kind == api.KRef || value.May(v)), api.FaultKind)
		i.mem[n] = v
	case api.IrDo:
		i.regs[o.A] = sound(value.Reckon(o.D, i.regs[o.B], i.regs[o.C]))
	case api.IrTurn:
		i.regs[o.A] = sound(value.Turn(o.D, i.regs[o.B]))
	case api.IrConv:
		must(among(o.D, 21), api.FaultKind)
		i.regs[o.A] = sound(value.Convert(api.Kind(o.D), i.regs[o.B]))
	case api.IrArg:
		must(len(i.args) < 16, api.FaultKind)
		i.args = append(i.args, i.regs[o.A])
	case api.IrStd:
		must(among(o.C, len(i.args)+1), api.FaultKind)
		rest := len(i.args) - o.C
		i.regs[o.A] = sound(stdlib.Call(o.D, i.args[rest:]))
		i.args = i.args[:rest]
	case api.IrCheck:
		must(holds(i.regs[o.A], api.KSint, api.KUlint), api.FaultKind)
		n, is := value.Number(i.regs[o.A])
		must(is && o.Lo <= n && n <= o.Hi, api.FaultRange)
	case api.IrText:
		must(holds(i.regs[o.A], api.KString, api.KString), api.FaultKind)
		must(len(i.regs[o.A].Text) <= o.Hi, api.FaultText)
	case api.IrBlock:
		i.block(o)
	default:
		panic(halt(api.FaultKind))
	}
}

func (i *running) block(o api.Op) {
	must(blocks.Name(o.B) != "", api.FaultKind)
	first := i.place(o.C, o.D)
	for k := range blocks.Vars(o.B) {
		must(among(first+k, len(i.mem)), api.FaultRef)
	}
	for k, v := range blocks.Vars(o.B) {
		must(i.mem[first+k].Kind == v.Type.Kind, api.FaultKind)
	}
	l, fault := blocks.Step(o.B, i.mem[first:first+blocks.Size(o.B)], i.now)
	must(fault == 0, fault)
	copy(i.mem[first:], l)
}

// someOp is an instruction by chance among n ones of codes; most of them do something.
func someOp(r *rand.Rand, n, codes int) api.Op {
	reg := func() int {
		if r.Intn(150) == 0 {
			return pick(r, -1, 4, 5)
		}
		return r.Intn(4)
	}
	o := api.Op{Code: pick(r, r.Intn(api.NumIr+1), api.IrConst, api.IrConst, api.IrLoad, api.IrLoad, api.IrLoad, api.IrStore, api.IrDo, api.IrUnless, api.IrCall, api.IrReturn, api.IrLoadX, api.IrStoreX, api.IrArg)}
	o.A, o.B, o.C, o.D = reg(), reg(), reg(), reg()
	o.Lo = r.Intn(3) - 1
	o.Hi = o.Lo + r.Intn(4) - r.Intn(2)
	area := pick(r, 1, 1, 1, 1, 2, 2, 2, 2, 3, r.Intn(30))
	cell := pick(r, r.Intn(3), r.Intn(3), r.Intn(3), r.Intn(3), r.Intn(9)-1)
	switch o.Code {
	case api.IrConst:
		o.Value = someValue(r)
	case api.IrLoad, api.IrStore, api.IrLoadX, api.IrStoreX, api.IrRef, api.IrRefX:
		o.B, o.C = area, cell
	case api.IrDo, api.IrTurn:
		o.D = pick(r, r.Intn(api.NumOps), api.OpAdd, api.OpSub, api.OpMul, api.OpDiv, api.OpEq)
	case api.IrConv:
		o.D = pick(r, r.Intn(22), int(api.KInt), int(api.KLint), 259)
	case api.IrStd:
		o.C, o.D = r.Intn(5)-1, pick(r, 1, 16, 18, 31, r.Intn(90))
	case api.IrJump, api.IrUnless:
		o.B = pick(r, r.Intn(n), r.Intn(n), r.Intn(n+3)-1)
	case api.IrCall:
		o.B, o.C, o.D = pick(r, r.Intn(codes), r.Intn(codes), r.Intn(codes+2)-1), area, cell
	case api.IrBlock:
		o.B, o.C, o.D = pick(r, r.Intn(4), r.Intn(12)), area, cell
	case api.IrFault:
		o.A = r.Intn(12)
	case api.IrSpill, api.IrFill:
		o.B = pick(r, 0, 1, 0, 1, 2, -1)
	}
	return o
}

// someCall is a call of Run by chance, of which most run.
func someCall(r *rand.Rand) call {
	c := call{most: pick(r, 200, 200, 200, r.Intn(30)), now: r.Intn(5)}
	codes := 1 + r.Intn(3)
	for range codes {
		f := api.Flat{Regs: 4, Slots: 2, Cells: r.Intn(3)}
		for reg := range r.Intn(5) {
			f.Ops = append(f.Ops, api.Op{Code: api.IrConst, A: reg, Value: soundValue(r, pick(r, api.KBool, api.KInt, api.KInt, api.KInt, api.KInt, api.KString))})
		}
		n := len(f.Ops) + 1 + r.Intn(14)
		for len(f.Ops) < n {
			f.Ops = append(f.Ops, someOp(r, n, codes))
		}
		f.Ops = append(f.Ops, api.Op{Code: api.IrReturn})
		c.codes = append(c.codes, f)
	}
	for range pick(r, 6, 7, 8, 3+r.Intn(6)) {
		k := pick(r, api.KBool, api.KBool, api.KInt, api.KInt, api.KInt, api.KInt, api.KInt, api.KTime, api.KString, api.KRef, api.KUlint)
		c.cells = append(c.cells, api.Cell{Kind: k})
		c.mem = append(c.mem, soundValue(r, k))
	}
	c.base = pick(r, 0, 0, 0, 1, 1, 2, r.Intn(len(c.mem)+1))
	return c
}

// Codes by hand come to what the chapter's sentences make of them.
func TestModel(t *testing.T) {
	r := rand.New(rand.NewSource(1))
	faults, long := map[int]int{}, 0
	for range 150000 {
		c := someCall(r)
		want := modelRun(c)
		if got := c.run(); !got.same(want) {
			for _, f := range c.codes {
				t.Log(listing.Text(f))
			}
			t.Fatal(c.base, c.mem, got, want)
		}
		faults[want.fault]++
		if want.steps > 8 {
			long++
		}
		if want.fault != api.FaultSteps {
			c.most = 1<<63 - 1
			if got, steps, fault := vm.Run(c.codes, c.fn, c.base, c.now, c.cells, c.mem, c.most); !want.same(outcome{got, steps, fault}) {
				t.Fatal(got, steps, fault)
			}
		}
	}
	for f := range api.FaultSteps + 1 {
		if faults[f] < 30 {
			t.Error(f, faults)
		}
	}
	if long < 5000 {
		t.Error(long)
	}
}
