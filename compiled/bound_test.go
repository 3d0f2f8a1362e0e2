package compiled

import (
	"relay/api"
	"relay/ir"
)

// reckoner tells how many instructions a run of a code takes at most, as chapter 22 has it.
type reckoner struct {
	codes []api.Flat
	api.Flat
	fars map[[2]int]int
}

// whole stands for the whole code, where a loop's number is asked.
const whole = -1

// most is the bound of a code.
func most(codes []api.Flat, fn int) int {
	r := &reckoner{codes, codes[fn], map[[2]int]int{}}
	return r.far(0, whole)
}

// liesIn tells whether a loop lies in another one.
func (r *reckoner) liesIn(m, l int) bool {
	if l == whole || m == l {
		return m != l
	}
	a, b := r.Loops[m], r.Loops[l]
	if a.Head == b.Head && a.End == b.End {
		return m > l
	}
	return a.Head >= b.Head && a.End <= b.End
}

// outermost is the loop in l that begins at a place and lies in no other such one; whole, if there is none.
func (r *reckoner) outermost(at, l int) int {
	found := whole
	for m, x := range r.Loops {
		if x.Head == at && r.liesIn(m, l) && (found == whole || r.liesIn(found, m)) {
			found = m
		}
	}
	return found
}

func (r *reckoner) cost(at int) int {
	if o := r.Ops[at]; o.Code == api.IrCall {
		return 1 + most(r.codes, o.B)
	}
	return 1
}

func (r *reckoner) far(at, l int) int {
	if l != whole && (at < r.Loops[l].Head || at >= r.Loops[l].End || at == r.Loops[l].Head) {
		return 0
	}
	key := [2]int{at, l}
	if n, is := r.fars[key]; is {
		return n
	}
	n := r.through(at, l)
	r.fars[key] = n
	return n
}

// through is how far it is from a place on, whether it is l's Head or not.
func (r *reckoner) through(at, l int) int {
	greatest := 0
	m := r.outermost(at, l)
	if m == whole {
		for _, next := range ir.Next(r.Ops[at], at) {
			greatest = max(greatest, r.far(next, l))
		}
		return r.cost(at) + greatest
	}
	x := r.Loops[m]
	for p := x.Head; p < x.End; p++ {
		for _, next := range ir.Next(r.Ops[p], p) {
			if next < x.Head || next >= x.End {
				greatest = max(greatest, r.far(next, l))
			}
		}
	}
	return (x.Times+1)*r.through(x.Head, m) + greatest
}
