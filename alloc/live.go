package alloc

import (
	"iter"

	"relay/api"
	"relay/ir"
)

// point is an instruction as a life sees it: what it reads and sets, where it goes on, and from where it is come to.
type point struct {
	reads []int
	gives int
	next  []int
	from  []int
}

// net is the ways through a code, and an order of its instructions: each stands behind those to which it leads, but where ways come round.
type net struct {
	points []point
	order  []int
}

func ways(f api.Flat) *net {
	w := &net{points: make([]point, len(f.Ops))}
	for at, o := range f.Ops {
		p := &w.points[at]
		p.reads, p.gives, p.next = ir.Uses(o), ir.Gives(o), ir.Next(o, at)
		for _, next := range p.next {
			w.points[next].from = append(w.points[next].from, at)
		}
	}
	isCome := make([]bool, len(f.Ops))
	for at := range f.Ops {
		w.line(at, isCome)
	}
	return w
}

// line puts an instruction into the order, behind those to which it leads, unless it was come to.
func (w *net) line(at int, isCome []bool) {
	if isCome[at] {
		return
	}
	isCome[at] = true
	for _, next := range w.points[at].next {
		w.line(next, isCome)
	}
	w.order = append(w.order, at)
}

// flow is where registers are live whose numbers begin with first: as many as a set has room for. So a code of many registers is gone through again and again, and takes no more memory than one of few.
type flow struct {
	*net
	first         int
	ahead, behind []set
}

// flows goes through the flows of all registers up to a number, rising; those without a register that the code names are left out.
func (w *net) flows(regs int) iter.Seq[*flow] {
	return func(yield func(fl *flow) bool) {
		named := w.named(regs)
		for i, is := range named {
			if !is {
				continue
			}
			fl := &flow{net: w, first: i * setSize, ahead: make([]set, len(w.points)), behind: make([]set, len(w.points))}
			fl.find()
			if !yield(fl) {
				return
			}
		}
	}
}

// named tells of each set of registers whether the code names one of them.
func (w *net) named(regs int) []bool {
	named := make([]bool, (max(regs, 0)+setSize-1)/setSize)
	for _, p := range w.points {
		for _, reg := range p.reads {
			named[reg/setSize] = true
		}
		if p.gives >= 0 {
			named[p.gives/setSize] = true
		}
	}
	return named
}

// own is a register's number in the flow's sets, if it has one.
func (fl *flow) own(reg int) (int, bool) {
	n := reg - fl.first
	return n, n >= 0 && n < setSize
}

// find goes through the code in its order, as sets grow against the ways; then, for ways that come round, the other way; and so on, as long as a set becomes another one.
func (fl *flow) find() {
	isOpen := fl.readers()
	isBack := false
	for fl.sweep(isOpen, isBack) {
		isBack = !isBack
	}
}

// sweep looks at all instructions that are open, and opens those that must be looked at therefore; it tells whether there were some.
func (fl *flow) sweep(isOpen []bool, isBack bool) bool {
	found := false
	for i := range fl.order {
		if isBack {
			i = len(fl.order) - 1 - i
		}
		at := fl.order[i]
		if !isOpen[at] {
			continue
		}
		found, isOpen[at] = true, false
		if before := fl.ahead[at]; fl.pass(at) == before {
			continue
		}
		for _, from := range fl.points[at].from {
			isOpen[from] = true
		}
	}
	return found
}

// readers tells of each instruction whether it reads one of the flow's registers.
func (fl *flow) readers() []bool {
	isReader := make([]bool, len(fl.points))
	for at, p := range fl.points {
		for _, reg := range p.reads {
			if _, is := fl.own(reg); is {
				isReader[at] = true
			}
		}
	}
	return isReader
}

// pass finds what is live behind and ahead of an instruction, as far as that is known behind it, and tells the latter.
func (fl *flow) pass(at int) set {
	var live set
	for _, next := range fl.points[at].next {
		live = live.with(fl.ahead[next])
	}
	fl.behind[at] = live
	if reg, is := fl.own(fl.points[at].gives); is {
		live.drop(reg)
	}
	for _, reg := range fl.points[at].reads {
		if reg, is := fl.own(reg); is {
			live.add(reg)
		}
	}
	fl.ahead[at] = live
	return live
}

// touched is the registers that an instruction sets, or behind or ahead of which they are live.
func (fl *flow) touched(at int) set {
	s := fl.ahead[at].with(fl.behind[at])
	if reg, is := fl.own(fl.points[at].gives); is {
		s.add(reg)
	}
	return s
}

// liveBehind is the registers of all flows that are live behind an instruction, rising.
func liveBehind(flows []*flow, at int) []int {
	n := 0
	for _, fl := range flows {
		n += fl.behind[at].count()
	}
	l := make([]int, 0, n)
	for _, fl := range flows {
		for reg := range fl.behind[at].all {
			l = append(l, fl.first+reg)
		}
	}
	return l
}
