package alloc_test

import (
	"slices"

	"relay/api"
	"relay/ir"
)

// The chapter's sentences, one by one, without a thought of how long that takes.

// comesToRead tells whether a way from a place comes to an instruction that reads a register ahead of any that sets it.
func comesToRead(f api.Flat, at, reg int, come []bool) bool {
	if come[at] {
		return false
	}
	come[at] = true
	if slices.Contains(ir.Uses(f.Ops[at]), reg) {
		return true
	}
	if ir.Gives(f.Ops[at]) == reg {
		return false
	}
	for _, next := range ir.Next(f.Ops[at], at) {
		if comesToRead(f, next, reg, come) {
			return true
		}
	}
	return false
}

func isLiveBehind(f api.Flat, at, reg int) bool {
	for _, next := range ir.Next(f.Ops[at], at) {
		if comesToRead(f, next, reg, make([]bool, len(f.Ops))) {
			return true
		}
	}
	return false
}

// named is the registers that a code names, rising.
func named(f api.Flat) []int {
	var l []int
	for _, o := range f.Ops {
		l = append(l, ir.Uses(o)...)
		if reg := ir.Gives(o); reg >= 0 {
			l = append(l, reg)
		}
	}
	slices.Sort(l)
	return slices.Compact(l)
}

// modelLive is what Live must answer of what can be.
func modelLive(f api.Flat) [][]int {
	l := make([][]int, len(f.Ops))
	for at := range f.Ops {
		for _, reg := range named(f) {
			if isLiveBehind(f, at, reg) {
				l[at] = append(l[at], reg)
			}
		}
	}
	return l
}

type modelLife struct {
	reg, first, last int
	place, slot      int // -1: none
}

// modelLives is the lives of a code, by their first instruction, then by their registers.
func modelLives(f api.Flat) []*modelLife {
	var l []*modelLife
	behind := modelLive(f)
	for _, reg := range named(f) {
		x := &modelLife{reg, -1, -1, -1, -1}
		for at, o := range f.Ops {
			isBehind, isSet := slices.Contains(behind[at], reg), ir.Gives(o) == reg
			isAhead := slices.Contains(ir.Uses(o), reg) || isBehind && !isSet
			if isSet || isBehind || isAhead {
				if x.first < 0 {
					x.first = at
				}
				x.last = at
			}
		}
		l = append(l, x)
	}
	slices.SortStableFunc(l, func(a, b *modelLife) int { return a.first - b.first })
	return l
}

// modelHomes is where each register stays, and how many slots there are.
func modelHomes(f api.Flat, regs int) (map[int]*modelLife, int) {
	homes, slots := map[int]*modelLife{}, 0
	holders := make([]*modelLife, regs-3)
	for _, x := range modelLives(f) {
		homes[x.reg] = x
		for place, y := range holders {
			if y != nil && y.last < x.first {
				holders[place] = nil
			}
		}
		if place := slices.Index(holders, nil); place >= 0 {
			holders[place], x.place = x, place
			continue
		}
		waits := x
		for _, y := range holders {
			if y.last > waits.last || y.last == waits.last && y.reg > waits.reg {
				waits = y
			}
		}
		waits.slot = slots
		slots++
		if waits != x {
			x.place, waits.place = waits.place, -1
			holders[x.place] = x
		}
	}
	return homes, slots
}

// modelAlloc is the instructions, loops and slots that Alloc must answer of what can be.
func modelAlloc(f api.Flat, regs int) api.Flat {
	homes, slots := modelHomes(f, regs)
	begins := make([]int, len(f.Ops)+1)
	var ops []api.Op
	for at, o := range f.Ops {
		begins[at] = len(ops)
		hand := regs - 3
		read := map[int]int{}
		for _, reg := range ir.Uses(o) {
			read[reg] = homes[reg].place
			if homes[reg].slot >= 0 {
				ops = append(ops, api.Op{Code: api.IrFill, A: hand, B: homes[reg].slot})
				read[reg] = hand
				hand++
			}
		}
		behind := []api.Op{}
		switch o.Code {
		case api.IrMove, api.IrTurn, api.IrConv:
			o.B = read[o.B]
		case api.IrStore, api.IrArg, api.IrCheck, api.IrText, api.IrUnless:
			o.A = read[o.A]
		case api.IrLoadX, api.IrRefX:
			o.D = read[o.D]
		case api.IrStoreX:
			o.A, o.D = read[o.A], read[o.D]
		case api.IrDo:
			o.B, o.C = read[o.B], read[o.C]
		}
		if reg := ir.Gives(o); reg >= 0 {
			o.A = homes[reg].place
			if homes[reg].slot >= 0 {
				o.A = regs - 1
				behind = append(behind, api.Op{Code: api.IrSpill, A: regs - 1, B: homes[reg].slot})
			}
		}
		ops = append(append(ops, o), behind...)
	}
	begins[len(f.Ops)] = len(ops)
	for i, o := range ops {
		if o.Code == api.IrJump || o.Code == api.IrUnless {
			ops[i].B = begins[o.B]
		}
	}
	var loops []api.Loop
	for _, l := range f.Loops {
		loops = append(loops, api.Loop{Head: begins[l.Head], End: begins[l.End], Times: l.Times})
	}
	f.Regs, f.Slots, f.Ops, f.Loops = regs, slots, ops, loops
	return f
}
