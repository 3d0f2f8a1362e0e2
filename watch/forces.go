package watch

import (
	"cmp"
	"slices"

	"relay/api"
	"relay/value"
)

// Which way a cell's value goes.
const (
	dirInput  = 1
	dirOutput = 2
)

// Force holds a cell, Free lets it go, Forced is all that are held.
func (p *Panel) Force(cell int, v api.Value) api.Errno {
	switch {
	case !p.isMade():
		return api.ErrNil
	// What a poke would say must be known ahead of it: with ErrFull nothing is poked.
	case !p.has(cell):
		return api.ErrArg
	case !fits(p.cells[cell], v):
		return api.ErrInput
	}
	at, is := p.find(cell)
	if !is && len(p.forces) == api.MaxForces {
		return api.ErrFull
	}
	if !is {
		p.forces = slices.Insert(p.forces, at, api.Force{Cell: cell})
	}
	p.forces[at].Value = v
	return p.resource.Poke(cell, v)
}

func (p *Panel) Free(cell int) api.Errno {
	if !p.isMade() {
		return api.ErrNil
	}
	at, is := p.find(cell)
	if !is {
		return api.ErrForced
	}
	p.forces = slices.Delete(p.forces, at, at+1)
	return api.OK
}

func (p *Panel) Forced() []api.Force {
	if !p.isMade() {
		return nil
	}
	return slices.Clone(p.forces)
}

// has tells whether there is a cell of a number.
func (p *Panel) has(cell int) bool { return cell >= 0 && cell < len(p.cells) }

// fits tells whether a value is for a cell.
func fits(c api.Cell, v api.Value) bool {
	return value.Fits(api.Type{Kind: c.Kind, Sub: c.Sub, Lo: c.Lo, Hi: c.Hi, Max: c.Max}, v) == api.FaultNone
}

// find is where a cell stands among those that are forced, or would stand.
func (p *Panel) find(cell int) (int, bool) {
	return slices.BinarySearchFunc(p.forces, cell, func(f api.Force, cell int) int { return cmp.Compare(f.Cell, cell) })
}

// hold lets all forced cells have their values.
func (p *Panel) hold() {
	for _, f := range p.forces {
		p.resource.Poke(f.Cell, f.Value)
	}
}

// held is inputs of which those of forced cells have these cells' values.
func (p *Panel) held(inputs []api.Input) []api.Input {
	places := map[string]int{}
	for i, f := range p.forces {
		if c := p.cells[f.Cell]; c.Dir == dirInput {
			places[c.Addr] = i
		}
	}
	l := slices.Clone(inputs)
	for i, in := range l {
		at, is := places[in.Addr]
		// A value that its cell can't have stays, so that the resource refuses it.
		if is && fits(p.cells[p.forces[at].Cell], in.Value) {
			l[i].Value = p.forces[at].Value
		}
	}
	return l
}

// show puts forced outputs' values into a report's outputs, which are those of all output cells in their order.
func (p *Panel) show(outputs []api.Input) {
	n := 0
	for cell, c := range p.cells {
		if c.Dir != dirOutput {
			continue
		}
		if at, is := p.find(cell); is {
			outputs[n].Value = p.forces[at].Value
		}
		n++
	}
}
