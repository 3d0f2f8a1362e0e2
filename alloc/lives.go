package alloc

import (
	"cmp"
	"slices"

	"relay/api"
)

// hands is how many registers are kept free, the last ones: two for what an instruction reads out of slots, one for what it sets.
const hands = 3

// life is from which instruction to which one a register is needed.
type life struct{ reg, first, last int }

// lives is the lives of a code's registers, by their first instruction, and then by their registers.
func lives(f api.Flat) []life {
	var l []life
	for fl := range ways(f).flows(f.Regs) {
		l = append(l, fl.lives()...)
	}
	slices.SortFunc(l, func(a, b life) int { return cmp.Or(a.first-b.first, a.reg-b.reg) })
	return l
}

// lives is the lives of a flow's registers.
func (fl *flow) lives() []life {
	var found [setSize]life
	var begun, ended set
	for at := range fl.points {
		for reg := range fl.touched(at).without(begun).all {
			found[reg] = life{reg: fl.first + reg, first: at}
			begun.add(reg)
		}
	}
	for at := len(fl.points) - 1; ended != begun; at-- {
		for reg := range fl.touched(at).without(ended).all {
			found[reg].last = at
			ended.add(reg)
		}
	}
	var l []life
	for reg := range begun.all {
		l = append(l, found[reg])
	}
	return l
}

// home is where a register stays through its life: in a place, or, if it waits, in a slot.
type home struct {
	waits  bool
	number int
}

// none is the number of a place that is none.
const none = -1

// settler deals out places and slots.
type settler struct {
	places int
	held   [api.MaxRegs - hands]life // by places
	isHeld [api.MaxRegs - hands]bool
	homes  map[int]home // by registers
	slots  int
}

// settle gives each life a home, and tells how many slots it takes.
func settle(l []life, places int) (map[int]home, int) {
	s := &settler{places: places, homes: map[int]home{}}
	for _, x := range l {
		s.free(x.first)
		s.admit(x)
	}
	return s.homes, s.slots
}

// free lets those places go whose lives ended ahead of an instruction.
func (s *settler) free(at int) {
	for place, x := range s.held[:s.places] {
		if x.last < at {
			s.isHeld[place] = false
		}
	}
}

// admit gives a life the lowest free place. If there is none, the one that is needed longest waits.
func (s *settler) admit(x life) {
	place := slices.Index(s.isHeld[:s.places], false)
	if place == none {
		place = s.longest(x)
		if place == none {
			s.wait(x)
			return
		}
		s.wait(s.held[place])
	}
	s.held[place], s.isHeld[place] = x, true
	s.homes[x.reg] = home{number: place}
}

// longest is the place whose life ends last; none, if x ends later. Of several the higher register is it.
func (s *settler) longest(x life) int {
	found := none
	for place, y := range s.held[:s.places] {
		if cmp.Or(y.last-x.last, y.reg-x.reg) > 0 {
			found, x = place, y
		}
	}
	return found
}

// wait gives a life a slot, whatever it had.
func (s *settler) wait(x life) {
	s.homes[x.reg] = home{waits: true, number: s.slots}
	s.slots++
}
