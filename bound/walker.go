package bound

import "slices"

// walker reckons how far it is from places on, within a loop, or within the whole code: what is found of a place is told to those that lead to it.
type walker struct {
	*plan
	costs []int
	fars  []int
	leads *leads // of each place how far it is from the furthest place on to which it leads
	in    *loop
}

func newWalker(p *plan, costs []int) *walker {
	return &walker{plan: p, costs: costs, fars: make([]int, len(costs)), leads: newLeads(len(costs))}
}

// most is how far it is from place 0 on. Loops come ahead of those around them, which go over them in one step.
func (w *walker) most() int {
	for _, l := range slices.Backward(w.loops) {
		w.in = l
		w.leads.clear()
		w.walk(l)
		l.once = w.fars[max(l.Head, 0)]
	}
	return w.loops[0].once
}

// walk goes through a loop from its end to its beginning, so that places know to what they lead. Heads come ahead of what lies in their loops, as ways lead back to them. What lies in a loop that is come to by its Head alone is not asked from outside.
func (w *walker) walk(l *loop) {
	end := l.End
	for _, inner := range slices.Backward(l.inner) {
		w.straight(inner.End, end)
		if l == w.in || inner.Head != l.Head {
			w.learn(inner.Head, (inner.Times+1)*inner.once+w.leads.most(inner.Head, inner.End))
		}
		if inner.isEntered {
			w.walk(inner)
		}
		end = inner.Head
	}
	w.straight(l.Head+1, end)
	if isHead := l == w.in && l.Head >= 0; isHead && end > l.Head {
		w.straight(l.Head, l.Head+1)
	}
}

// straight goes through places that lie directly in a loop.
func (w *walker) straight(from, end int) {
	for place := end - 1; place >= from; place-- {
		w.learn(place, w.costs[place]+w.leads.most(place, place+1))
	}
}

// learn takes in how far it is from a place on. A way ends where it comes back to the Head: that is learned last, so that it adds nothing to what leads there.
func (w *walker) learn(place, far int) {
	w.fars[place] = capped(far)
	for _, from := range w.from[place] {
		w.leads.put(from, w.fars[place])
	}
}

// leads is a number of each place, 0 at first, with the greatest of any stretch at hand: a tree whose leaves are the second half of the list, each other item being the greater of the two that stand at twice its place.
type leads struct {
	tree []int
	set  []int // the places that are not 0
}

func newLeads(n int) *leads { return &leads{tree: make([]int, 2*n)} }

// put gives a place a number, if that is greater.
func (l *leads) put(place, n int) {
	l.set = append(l.set, place)
	for i := place + len(l.tree)/2; i > 0 && l.tree[i] < n; i /= 2 {
		l.tree[i] = n
	}
}

// clear makes all numbers 0 again.
func (l *leads) clear() {
	for _, place := range l.set {
		for i := place + len(l.tree)/2; i > 0 && l.tree[i] > 0; i /= 2 {
			l.tree[i] = 0
		}
	}
	l.set = l.set[:0]
}

// most is the greatest number of the places from one up to another one.
func (l *leads) most(from, end int) int {
	n := 0
	leaves := len(l.tree) / 2
	for i, j := from+leaves, end+leaves; i < j; i, j = i/2, j/2 {
		if i%2 > 0 {
			n = max(n, l.tree[i])
			i++
		}
		if j%2 > 0 {
			j--
			n = max(n, l.tree[j])
		}
	}
	return n
}
