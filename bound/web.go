package bound

import (
	"math"

	"relay/api"
)

// none is the number of a code that there is not; closed the rank of one of which all is known. Both are above all others, so that the lower of two numbers is the one that counts.
const (
	none   = math.MaxInt
	closed = math.MaxInt
)

// node is what is known of a code from what it calls.
type node struct {
	calls  []int
	rank   int // as how manieth it was come to; 0: not yet
	low    int // the lowest rank to which a way along calls leads back
	astray int // the lowest of those that belong to it that calls what is no code
	ring   int // the lowest of those that belong to it that calls itself, over others too
	depth  int
}

// step is a code that is being looked at, and which of its calls comes next.
type step struct{ code, next int }

// web is codes that call one another. They are looked at when they are asked for, each once, by way of Tarjan's search for rings.
type web struct {
	codes []api.Flat
	nodes []node
	order []int // those of which all is known: each behind all that it calls, but in rings
	path  []step
	open  []int // those whose ring may go on
	count int   // of those that were come to
}

func newWeb(codes []api.Flat) *web {
	return &web{codes: codes, nodes: make([]node, len(codes))}
}

func (w *web) isCode(n int) bool { return n >= 0 && n < len(w.codes) }

// fault is what is wrong with the calls of the codes that belong to one, and which of them has it.
func (w *web) fault(fn int) (int, api.Errno) {
	if !w.isCode(fn) {
		return fn, api.ErrArg
	}
	if w.nodes[fn].rank == 0 {
		w.look(fn)
	}
	switch n := &w.nodes[fn]; {
	case n.astray != none:
		return n.astray, api.ErrArg
	case n.ring != none:
		return n.ring, api.ErrCycle
	}
	return 0, api.OK
}

// look goes through all that belongs to a code.
func (w *web) look(fn int) {
	w.begin(fn)
	for len(w.path) > 0 {
		top := &w.path[len(w.path)-1]
		n := &w.nodes[top.code]
		if top.next == len(n.calls) {
			w.end()
			continue
		}
		c := n.calls[top.next]
		top.next++
		switch {
		case !w.isCode(c):
			n.astray = min(n.astray, top.code)
		case w.nodes[c].rank == 0:
			w.begin(c)
		default:
			n.low = min(n.low, w.nodes[c].rank)
		}
	}
}

// begin comes to a code.
func (w *web) begin(code int) {
	w.count++
	w.nodes[code] = node{calls: Calls(w.codes[code]), rank: w.count, low: w.count, astray: none, ring: none}
	w.path = append(w.path, step{code: code})
	w.open = append(w.open, code)
}

// end goes back from a code all of whose calls were looked at.
func (w *web) end() {
	last := len(w.path) - 1
	n := &w.nodes[w.path[last].code]
	w.path = w.path[:last]
	if n.low == n.rank {
		w.close(n.rank)
		return
	}
	from := &w.nodes[w.path[last-1].code]
	from.low = min(from.low, n.low)
}

// close learns all of the open codes from a rank on: they call one another, or there is just one.
func (w *web) close(rank int) {
	first := len(w.open)
	for first > 0 && w.nodes[w.open[first-1]].rank >= rank {
		first--
	}
	codes := w.open[first:]
	w.open = w.open[:first]
	together := node{astray: none, ring: none}
	for _, c := range codes {
		w.gather(&together, c, len(codes) > 1)
	}
	for _, c := range codes {
		n := &w.nodes[c]
		n.rank, n.astray, n.ring, n.depth = closed, together.astray, together.ring, together.depth+1
	}
	w.order = append(w.order, codes...)
}

// gather takes in what is known of a code and of those that it calls.
func (w *web) gather(all *node, code int, inRing bool) {
	n := &w.nodes[code]
	all.astray = min(all.astray, n.astray)
	for _, c := range n.calls {
		inRing = inRing || c == code
		if w.isCode(c) {
			inner := &w.nodes[c]
			all.astray, all.ring, all.depth = min(all.astray, inner.astray), min(all.ring, inner.ring), max(all.depth, inner.depth)
		}
	}
	if inRing {
		all.ring = min(all.ring, code)
	}
}
