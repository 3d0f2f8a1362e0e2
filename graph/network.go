package graph

import (
	"relay/api"
	"relay/value"
	"relay/words"
)

func (r *reader) network() api.Network {
	network := api.Network{At: r.Peek().At}
	r.Want("NETWORK")
	r.names = map[string]struct{}{}
	for n := range r.nodes {
		network.Nodes = append(network.Nodes, n)
	}
	return network
}

// nodes yields those of a network, and goes on behind its END_NETWORK.
func (r *reader) nodes(yield func(api.Node) bool) {
	for !r.Takes("END_NETWORK") {
		n := r.node()
		r.Want(";")
		if !yield(n) {
			return
		}
	}
}

func (r *reader) node() api.Node {
	first, second := r.Peek(), r.Second()
	n := api.Node{At: first.At}
	isName := first.Kind == api.TokName
	switch {
	case isName && words.Is(second, ":"):
		r.function(&n)
	case isName && words.Is(second, "("):
		r.instance(&n)
	default:
		n.Op, n.Wires, n.Names = api.FbOut, []api.Expr{r.wire()}, []string{""}
		r.Want("=>")
		n.Name = r.Name().Text
	}
	return n
}

func (r *reader) function(n *api.Node) {
	n.Op, n.Name = api.FbFunc, r.Name().Text
	r.Want(":")
	_, is := r.names[n.Name]
	words.Must(!is, n.At, api.ErrNode)
	r.names[n.Name] = struct{}{}
	n.Kind = r.kind()
	r.Want(":=")
	n.Func = r.called()
	r.Want("(")
	for name, wire := range r.arguments {
		n.Names, n.Wires = append(n.Names, name), append(n.Wires, wire)
	}
	r.Want(")")
}

func (r *reader) instance(n *api.Node) {
	n.Op, n.Name = api.FbBlock, r.Name().Text
	r.Want("(")
	if r.Takes(")") {
		return
	}
	for name, wire := range r.inputs {
		n.Names, n.Wires = append(n.Names, name), append(n.Wires, wire)
	}
	r.Want(")")
}

func (r *reader) kind() api.Kind {
	t := r.Peek()
	k, is := value.Kind(t.Text)
	words.Must(t.Kind == api.TokWord && is, t.At, api.ErrToken)
	r.Skip()
	return k
}

// called is a function's name.
func (r *reader) called() string {
	t := r.Peek()
	is := t.Kind == api.TokName
	for _, word := range [...]string{"AND", "OR", "XOR", "NOT", "MOD"} {
		is = is || words.Is(t, word)
	}
	words.Must(is, t.At, api.ErrToken)
	r.Skip()
	return t.Text
}

// arguments yields wires with "," between, each with its formal name, or an empty one.
func (r *reader) arguments(yield func(string, api.Expr) bool) {
	for {
		name := ""
		if r.Peek().Kind == api.TokName && words.Is(r.Second(), ":=") {
			name = r.formal()
		}
		if !yield(name, r.wire()) || !r.Takes(",") {
			return
		}
	}
}

// inputs yields wires with "," between, each with its formal name, which must be there.
func (r *reader) inputs(yield func(string, api.Expr) bool) {
	for yield(r.formal(), r.wire()) && r.Takes(",") {
	}
}

// formal is a formal name, and goes on behind the ":=".
func (r *reader) formal() string {
	name := r.Name().Text
	r.Want(":=")
	return name
}

func (r *reader) wire() api.Expr {
	at := r.Peek().At
	if r.Takes("NOT") {
		return api.Expr{Op: api.OpNot, At: at, Kids: []api.Expr{r.plainWire()}}
	}
	return r.plainWire()
}

// plainWire is a wire without a NOT ahead.
func (r *reader) plainWire() api.Expr {
	at := r.Peek().At
	if r.Takes("-") {
		e := r.literal()
		words.Must(e.Value.Kind == api.KNone, e.At, api.ErrToken)
		return api.Expr{Op: api.OpNeg, At: at, Kids: []api.Expr{e}}
	}
	if r.Peek().Kind == api.TokLit {
		return r.literal()
	}
	name, field := r.item()
	e := api.Expr{Op: api.ExName, At: at, Name: name.Text}
	if field != "" {
		e.Op, e.Field = api.ExField, field
	}
	return e
}

func (r *reader) literal() api.Expr {
	t := r.Token(api.TokLit)
	return api.Expr{Op: api.ExLit, At: t.At, Value: t.Value}
}
