package graphcore

import (
	"slices"

	"relay/api"
	"relay/trees"
)

// thing is what a wire may come from: all nodes of a sort (FbFunc, FbBlock) with one name.
type thing struct {
	op   int
	name string
}

// giver is the nodes that are one thing.
type giver struct {
	first   int   // the first one of them
	left    int   // how many of them are not done
	waiting []int // those that wait for them, once for each wire
}

// network is nodes that are put into an order.
type network struct {
	nodes  []api.Node
	hidden []string // of each node of a function its variable's name
	givers map[thing]*giver
	waits  []int // how many things each node waits for, once for each wire
	ready  []int // the nodes that are not done and wait for none, rising
}

// wired is a network whose nodes know what they wait for; next names the variables of its functions.
func wired(nodes []api.Node, next func(api.Var) string) *network {
	a := &network{nodes: nodes, hidden: make([]string, len(nodes)), givers: map[thing]*giver{}, waits: make([]int, len(nodes))}
	for i, n := range nodes {
		if n.Op == api.FbFunc {
			a.hidden[i] = next(trees.Var(api.VarTemp, n.Kind))
		}
		a.gives(i)
	}
	for i := range nodes {
		a.wait(i)
	}
	return a
}

// gives notes a node of a function or an instance as one that others may wait for.
func (a *network) gives(i int) {
	n := a.nodes[i]
	if n.Op != api.FbFunc && n.Op != api.FbBlock {
		return
	}
	is := thing{n.Op, n.Name}
	if a.givers[is] == nil {
		a.givers[is] = &giver{first: i}
	}
	a.givers[is].left++
}

// from is those nodes that a wire's part comes from; nil, if it comes from none.
func (a *network) from(e api.Expr) *giver {
	switch e.Op {
	case api.ExName:
		return a.givers[thing{api.FbFunc, e.Name}]
	case api.ExField:
		return a.givers[thing{api.FbBlock, e.Name}]
	}
	return nil
}

// wait notes what a node waits for.
func (a *network) wait(i int) {
	n := a.nodes[i]
	if n.Op < api.FbFunc || n.Op > api.FbOut {
		return
	}
	each(n.Wires, func(e api.Expr) {
		if g := a.from(e); g != nil {
			g.waiting = append(g.waiting, i)
			a.waits[i]++
		}
	})
	if a.waits[i] == 0 {
		a.ready = append(a.ready, i)
	}
}

// each hands on expressions and all parts of them.
func each(l []api.Expr, to func(api.Expr)) {
	for _, e := range l {
		to(e)
		each(e.Kids, to)
	}
}

// inOrder yields the nodes that can be done, each time the first one that waits for none.
func (a *network) inOrder(yield func(int) bool) {
	for len(a.ready) > 0 {
		i := a.ready[0]
		a.ready = a.ready[1:]
		if !yield(i) {
			return
		}
		a.done(i)
	}
}

// done lets those go on that waited for a node, if it was the last one of its thing.
func (a *network) done(i int) {
	g := a.givers[thing{a.nodes[i].Op, a.nodes[i].Name}]
	if g == nil {
		return
	}
	g.left--
	if g.left > 0 {
		return
	}
	for _, w := range g.waiting {
		a.waits[w]--
		if a.waits[w] == 0 {
			at, _ := slices.BinarySearch(a.ready, w)
			a.ready = slices.Insert(a.ready, at, w)
		}
	}
}

// ring is the first node that still waits, if there is one.
func (a *network) ring() (api.Node, bool) {
	i := slices.IndexFunc(a.waits, func(n int) bool { return n > 0 })
	if i < 0 {
		return api.Node{}, false
	}
	return a.nodes[i], true
}

func (a *network) statement(i int) api.Stmt {
	n := a.nodes[i]
	wires := trees.AllChanged(n.Wires, a.taken)
	// The document gives a place to statements and calls; what is assigned to has none.
	switch n.Op {
	case api.FbFunc:
		call := api.Expr{Op: api.ExCall, At: n.At, Name: n.Func, Kids: wires, Names: slices.Clone(n.Names)}
		return trees.Set(n.At, trees.Name(0, a.hidden[i]), call)
	case api.FbBlock:
		return api.Stmt{Op: api.StCall, At: n.At, Name: n.Name, Exprs: wires, Names: slices.Clone(n.Names)}
	}
	if len(wires) == 0 {
		return trees.Set(n.At, trees.Name(0, n.Name), trees.Truth(0, true))
	}
	return trees.Set(n.At, trees.Name(0, n.Name), wires[0])
}

// taken is a wire's part, its name that of the node's variable from which it comes.
func (a *network) taken(e api.Expr) api.Expr {
	if g := a.from(e); g != nil && e.Op == api.ExName {
		e.Name = a.hidden[g.first]
	}
	return e
}
