package layout

import "math"

// rings finds the function blocks that hold themselves, by Tarjan's walk: each one is come to once, however many there are.
type rings struct {
	held   func(int) []int  // which function blocks one has instances of
	come   map[int]int      // when each was come to, from 1 on; settled, if all that it holds is known
	open   []int            // those that are not settled, in the order in which they were come to
	itself map[int]struct{} // those that hold themselves
}

// settled is later than any other.
const settled = math.MaxInt

func newRings(held func(int) []int) rings {
	return rings{held: held, come: map[int]int{}, itself: map[int]struct{}{}}
}

// holdsItself tells whether a function block has an instance of itself, however deep.
func (r *rings) holdsItself(block int) bool {
	if _, known := r.come[block]; !known {
		r.visit(block)
	}
	_, is := r.itself[block]
	return is
}

// visit comes to a function block and to all that it holds. It answers the earliest of those that are open and held by it.
func (r *rings) visit(block int) int {
	now, ahead := len(r.come)+1, len(r.open)
	r.come[block] = now
	r.open = append(r.open, block)
	earliest := now
	for _, inner := range r.held(block) {
		if inner == block {
			r.itself[block] = struct{}{}
		}
		when, known := r.come[inner]
		if !known {
			when = r.visit(inner)
		}
		earliest = min(earliest, when)
	}
	if earliest == now {
		r.settle(r.open[ahead:])
		r.open = r.open[:ahead]
	}
	return earliest
}

// settle ends the search for those that hold one another; one alone holds none of the others.
func (r *rings) settle(ring []int) {
	for _, block := range ring {
		r.come[block] = settled
		if len(ring) > 1 {
			r.itself[block] = struct{}{}
		}
	}
}
