package samples

import (
	"slices"
	"strconv"
	"strings"

	"relay/api"
	"relay/value"
)

// networks is some networks.
func (w *writer) networks() string {
	text := ""
	for range 1 + w.pick(2) {
		text += "NETWORK " + w.network(2+w.pick(6)) + "END_NETWORK\n"
	}
	return text
}

// node is a function's node of a network, which others may be wired to.
type node struct {
	name string
	kind api.Kind
}

// wiring is nodes that are written such that each waits for those ahead of it alone.
type wiring struct {
	*writer
	nodes   []node
	called  []string // instances that have a node
	asked   []string // instances that were asked ahead of a node: they get none any more
	calling string   // the instance whose node is written
}

// network is nodes in some order.
func (w *writer) network(n int) string {
	x := &wiring{writer: w}
	var l []string
	for range n {
		if text := x.node(); text != "" {
			l = append(l, text+"; ")
		}
	}
	w.shuffle(l)
	return strings.Join(l, "")
}

// node is a node; none, if there is nothing for it.
func (x *wiring) node() string {
	switch x.pick(4) {
	case 0:
		return x.output()
	case 1:
		return x.instance()
	}
	k := x.kind()
	// The call is written ahead of its name, so that it does not wait for itself.
	text, name := x.function(k), "N"+strconv.Itoa(len(x.nodes))
	x.nodes = append(x.nodes, node{name, k})
	return name + " : " + value.Word(k) + " := " + text
}

func (x *wiring) output() string {
	places := x.simplePlaces(func(v variable) bool { return v.some == 0 || x.maybe(4) })
	if len(places) == 0 {
		return ""
	}
	place := x.one(places...)
	i := slices.IndexFunc(x.scope, func(v variable) bool { return v.name == place })
	return x.wire(x.scope[i].kind) + " => " + place
}

// wire is what may be wired where a kind is wanted.
func (x *wiring) wire(k api.Kind) string {
	var l []string
	for _, n := range x.nodes {
		if n.kind == k {
			l = append(l, n.name, n.name)
		}
	}
	for _, item := range x.items(k) {
		if instance, _, isField := strings.Cut(item, "."); !isField || instance != x.calling {
			l = append(l, item)
		}
	}
	text := x.literal(k)
	if len(l) > 0 && x.pick(4) > 0 {
		text = x.one(l...)
		if instance, _, isField := strings.Cut(text, "."); isField && !slices.Contains(x.called, instance) {
			x.asked = append(x.asked, instance)
		}
	}
	if (k == api.KBool || isRow(k)) && x.maybe(4) {
		text = "NOT " + text
	}
	return text
}

// instance is a node of an instance that may still have one; or none.
func (x *wiring) instance() string {
	i := slices.IndexFunc(x.scope, func(v variable) bool {
		return v.block != nil && !slices.Contains(x.called, v.name) && !slices.Contains(x.asked, v.name)
	})
	if i < 0 {
		return ""
	}
	v := x.scope[i]
	x.calling = v.name
	args, is := x.wires(v.block.params)
	x.calling = ""
	if !is {
		return ""
	}
	x.called = append(x.called, v.name)
	return v.name + "(" + strings.Join(args, ", ") + ")"
}

// wires is what is wired to parameters; false, if there is no place that one can stand for.
func (x *wiring) wires(params []variable) ([]string, bool) {
	var l []string
	for _, p := range params {
		switch {
		case p.isRef:
			places := x.simplePlaces(func(v variable) bool { return v.text == p.text })
			if len(places) == 0 {
				return nil, false
			}
			l = append(l, p.name+" := "+x.one(places...))
		case x.pick(4) > 0:
			l = append(l, p.name+" := "+x.wire(p.kind))
		}
	}
	return l, true
}

// function is a call of a function that gives a kind.
func (x *wiring) function(k api.Kind) string {
	switch x.pick(6) {
	case 0:
		return x.call("SEL", "G IN0 IN1", x.wire(api.KBool), x.wire(k), x.wire(k))
	case 1:
		return x.call(x.one("MAX", "MIN"), "IN1 IN2", x.wire(k), x.wire(k))
	case 2:
		return x.call("MOVE", "IN", x.wire(k))
	}
	switch {
	case isInteger(k):
		return x.call(x.one("ADD", "SUB", "MUL", "DIV", "MOD"), "IN1 IN2", x.wire(k), x.wire(k))
	case k == api.KLreal:
		return x.call(x.one("ADD", "SUB", "MUL", "DIV"), "IN1 IN2", x.wire(k), x.wire(k))
	case k == api.KBool && x.maybe(2):
		other := x.kind()
		return x.call(x.one("EQ", "NE", "LT", "GE"), "IN1 IN2", x.wire(other), x.wire(other))
	case k == api.KBool || isRow(k):
		return x.call(x.one("AND", "OR", "XOR"), "IN1 IN2 IN3", x.wire(k), x.wire(k), x.wire(k))
	case k == api.KString:
		return x.call("CONCAT", "IN1 IN2", x.wire(k), x.wire(k))
	case k == api.KTime:
		return x.call(x.one("ADD", "SUB"), "IN1 IN2", x.wire(k), x.wire(k))
	}
	return x.call("LIMIT", "MN IN MX", x.wire(k), x.wire(k), x.wire(k))
}
