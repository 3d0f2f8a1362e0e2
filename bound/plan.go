package bound

import (
	"cmp"
	"slices"

	"relay/api"
	"relay/ir"
)

// loop is a loop of a code, or the whole code, which has no Head: it stands ahead of place 0 then.
type loop struct {
	api.Loop
	around *loop   // the next greater one
	inner  []*loop // those that lie in it and in no other one in it, rising
	// An instruction outside leads into it, past its Head.
	isEntered bool
	once      int // the most instructions from its Head on, back to it or out
}

func (l *loop) has(place int) bool { return place >= l.Head && place < l.End }

// plan is the ways through a code, and its loops within one another.
type plan struct {
	next  [][]int // where each instruction leads
	from  [][]int // from where each place is come to
	loops []*loop // the whole code first, each behind those around it
	at    []*loop // of each place the innermost loop that has it
}

// newPlan is the plan of a code that can be reckoned; false of others.
func newPlan(f api.Flat) (*plan, bool) {
	n := len(f.Ops)
	isOdd := func(l api.Loop) bool {
		return l.Head < 0 || l.Head >= l.End || l.End > n || l.Times < 0 || l.Times > api.MaxTimes
	}
	if n == 0 || slices.ContainsFunc(f.Loops, isOdd) {
		return nil, false
	}
	p := &plan{next: make([][]int, n), from: make([][]int, n), at: make([]*loop, n)}
	for at := range f.Ops {
		p.next[at] = ir.Next(f.Ops[at], at)
	}
	can := p.nest(f.Loops) && p.leadsWell()
	if can {
		p.join()
	}
	return p, can
}

// nest puts loops into one another; false, if two of them have places in common, but each also others.
func (p *plan) nest(loops []api.Loop) bool {
	sorted := slices.Clone(loops)
	slices.SortStableFunc(sorted, func(a, b api.Loop) int { return cmp.Or(a.Head-b.Head, b.End-a.End) })
	whole := &loop{Loop: api.Loop{Head: -1, End: len(p.next)}}
	p.loops = append(p.loops, whole)
	inner := whole
	for place := range p.at {
		for !inner.has(place) {
			inner = inner.around
		}
		for len(sorted) > 0 && sorted[0].Head == place {
			if sorted[0].End > inner.End {
				return false
			}
			l := &loop{Loop: sorted[0], around: inner}
			inner.inner = append(inner.inner, l)
			p.loops = append(p.loops, l)
			sorted, inner = sorted[1:], l
		}
		p.at[place] = inner
	}
	return true
}

// leadsWell tells whether all ways stay within the code, and those that lead back lead to the Head of a loop that has the instruction.
func (p *plan) leadsWell() bool {
	ends := make([]int, len(p.next)) // of each place the end of the greatest loop whose Head it is
	for _, l := range p.loops[1:] {
		ends[l.Head] = max(ends[l.Head], l.End)
	}
	for from, next := range p.next {
		for _, to := range next {
			if to < 0 || to >= len(p.next) || to <= from && ends[to] <= from {
				return false
			}
		}
	}
	return true
}

// join finds from where places are come to, and which loops are entered.
func (p *plan) join() {
	for from, next := range p.next {
		for _, to := range next {
			p.from[to] = append(p.from[to], from)
			for l := p.at[to]; !l.has(from); l = l.around {
				l.isEntered = l.isEntered || to != l.Head
			}
		}
	}
}
