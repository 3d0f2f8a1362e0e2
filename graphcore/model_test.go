package graphcore_test

import (
	"math/rand"
	"strconv"
	"strings"
	"testing"

	"relay/api"
	"relay/graph"
	"relay/shown"
)

// maker writes ladders' and networks' texts by chance.
type maker struct{ r *rand.Rand }

func newMaker(seed int64) maker { return maker{rand.New(rand.NewSource(seed))} }

func (m maker) pick(words ...string) string { return words[m.r.Intn(len(words))] }

func (m maker) item() string { return m.pick("a", "b", "c", "t", "t.q", "a.b") }

func (m maker) ladder(count int) string {
	s := ""
	for range m.r.Intn(count + 1) {
		s += "RUNG " + m.series(0) + " => " + m.pick("", "!", "+", "-") + m.item()
		for range m.r.Intn(3) {
			s += ", " + m.pick("", "!", "+", "-") + m.item()
		}
		s += ";" + m.pick(" ", "\n")
	}
	return s
}

func (m maker) series(deep int) string {
	s := ""
	for range m.r.Intn(4) {
		if deep > 4 || m.r.Intn(4) > 0 {
			s += " " + m.pick("", "!", "+", "-") + m.item()
			continue
		}
		s += " [" + m.series(deep+1)
		for range m.r.Intn(4) {
			s += " |" + m.series(deep+1)
		}
		s += "]"
	}
	return s
}

// networks writes networks; of about half of them the nodes wait for one another in no ring.
func (m maker) networks(count int) string {
	s := ""
	for range m.r.Intn(count + 1) {
		s += "NETWORK "
		names := m.r.Perm(5)
		for range m.r.Intn(6) {
			switch kind := m.r.Intn(3); {
			case kind == 0:
				s += "n" + strconv.Itoa(names[0]) + " : " + m.pick("INT", "BOOL", "TIME") + " := " + m.pick("ADD", "NOT", "MOD", "MAX") + "(" + m.wires(1+m.r.Intn(2), "", "IN1 := ") + "); "
				names = names[1:]
			case kind == 1:
				s += m.pick("t", "u", "n1") + "(" + m.wires(m.r.Intn(3), "PT := ", "IN := ") + "); "
			default:
				s += m.wires(1, "") + " => " + m.pick("a", "n1", "t") + "; "
			}
			if len(names) == 0 {
				break
			}
		}
		s += "END_NETWORK "
	}
	return s
}

func (m maker) wires(count int, formals ...string) string {
	l := make([]string, count)
	for i := range l {
		l[i] = m.pick(formals...) + m.pick("", "", "NOT ") + m.pick("a", "b", "5", "-7", "TRUE", "n", "n1", "n2", "n3", "t.q", "u.q", "n2.x")
	}
	return strings.Join(l, ", ")
}

func ladder(t *testing.T, src string) []api.Rung {
	t.Helper()
	l, err := graph.Ladder(src)
	if err != nil {
		t.Fatalf("%q: %v", src, err)
	}
	return l
}

func networks(t *testing.T, src string) []api.Network {
	t.Helper()
	l, err := graph.Networks(src)
	if err != nil {
		t.Fatalf("%q: %v", src, err)
	}
	return l
}

// at is a place, and what stands there.
func at(place int, s string) string { return strconv.Itoa(place) + ":" + s }

// edgesOf is the edges among contacts, in the order in which they stand.
func edgesOf(contacts []api.Element) []api.Element {
	var l []api.Element
	for _, c := range contacts {
		switch c.Op {
		case api.LdRise, api.LdFall:
			l = append(l, c)
		case api.LdBranches:
			for _, b := range c.Branches {
				l = append(l, edgesOf(b)...)
			}
		}
	}
	return l
}

// contactsText is contacts by AND; edge is how many edges stand ahead.
func contactsText(contacts []api.Element, rung string, edge int) string {
	var l []string
	for _, c := range contacts {
		switch c.Op {
		case api.LdShut:
			l = append(l, "("+at(c.At, "NOT ")+at(c.At, c.Name)+")")
		case api.LdRise, api.LdFall:
			l = append(l, at(c.At, "_E"+strconv.Itoa(edge+1)))
		case api.LdBranches:
			var branches []string
			inner := edge
			for _, b := range c.Branches {
				branches = append(branches, contactsText(b, rung, inner))
				inner += len(edgesOf(b))
			}
			l = append(l, joined(branches, rung, "OR"))
		default:
			l = append(l, at(c.At, c.Name))
		}
		edge += len(edgesOf([]api.Element{c}))
	}
	return joined(l, rung, "AND")
}

// joined is texts by an operation, from the left on.
func joined(l []string, rung, op string) string {
	if len(l) == 0 {
		return rung + ":TRUE"
	}
	s := strings.Repeat("(", len(l)-1) + l[0]
	for _, x := range l[1:] {
		s += " " + rung + ":" + op + " " + x + ")"
	}
	return s
}

func hidden(name string, n, class int, kind api.Kind) api.Var {
	return api.Var{Name: name + strconv.Itoa(n), Class: class, Type: api.Type{Kind: kind}}
}

// ladderModel is what the chapter says of rungs: the statements' text, with places, and the variables.
func ladderModel(l []api.Rung) (string, []api.Var) {
	var out []string
	var vars []api.Var
	edges := 0
	for k, r := range l {
		rung := strconv.Itoa(r.At)
		put := func(s string) { out = append(out, rung+"> "+s+";") }
		power := rung + ":_R" + strconv.Itoa(k+1)
		for i, e := range edgesOf(r.Contacts) {
			n := strconv.Itoa(edges + i + 1)
			text := "_E := (x AND (NOT _P))"
			if e.Op == api.LdFall {
				text = "_E := ((NOT x) AND _P)"
			}
			place := strconv.Itoa(e.At) + ":"
			put(strings.NewReplacer("_E", place+"_E"+n, "_P", place+"_P"+n, "x", place+e.Name, "AND", place+"AND", "NOT", place+"NOT").Replace(text))
			put(place + "_P" + n + " := " + place + e.Name)
			vars = append(vars, hidden("_E", edges+i+1, api.VarTemp, api.KBool), hidden("_P", edges+i+1, api.VarLocal, api.KBool))
		}
		put(power + " := " + contactsText(r.Contacts, rung, edges))
		vars = append(vars, hidden("_R", k+1, api.VarTemp, api.KBool))
		edges += len(edgesOf(r.Contacts))
		for _, c := range r.Coils {
			x := at(c.At, c.Name)
			switch c.Op {
			case api.LdNot:
				put(x + " := (" + at(c.At, "NOT ") + power + ")")
			case api.LdSet:
				put("IF " + power + " THEN " + rung + "> " + x + " := " + rung + ":TRUE; END_IF")
			case api.LdReset:
				put("IF " + power + " THEN " + rung + "> " + x + " := " + at(c.At, "FALSE") + "; END_IF")
			default:
				put(x + " := " + power)
			}
		}
	}
	return strings.Join(out, " "), vars
}

// namesIn is the names that stand in wires as parts of an Op.
func namesIn(wires []api.Expr, op int) []string {
	var l []string
	for _, e := range wires {
		if e.Op == op {
			l = append(l, e.Name)
		}
		l = append(l, namesIn(e.Kids, op)...)
	}
	return l
}

func has(l []string, name string) bool {
	for _, s := range l {
		if s == name {
			return true
		}
	}
	return false
}

// waits tells whether the node a waits for the node b of its network.
func waits(a, b api.Node) bool {
	return b.Op == api.FbFunc && has(namesIn(a.Wires, api.ExName), b.Name) || b.Op == api.FbBlock && has(namesIn(a.Wires, api.ExField), b.Name)
}

// orderModel is the numbers of a network's nodes in their order, and of those that are left the first (-1: none is).
func orderModel(nodes []api.Node) (order []int, ring int) {
	done := make([]bool, len(nodes))
	for {
		next, left := -1, -1
		for i, n := range nodes {
			if done[i] || n.Op < api.FbFunc || n.Op > api.FbOut {
				continue
			}
			if left < 0 {
				left = i
			}
			free := true
			for j, m := range nodes {
				free = free && (done[j] || !waits(n, m))
			}
			if free {
				next = i
				break
			}
		}
		if next < 0 {
			return order, left
		}
		done[next] = true
		order = append(order, next)
	}
}

// networksModel is what the chapter says of networks: the statements' text, with places, the variables, and the place of a ring (-1: there is none).
func networksModel(l []api.Network) (string, []api.Var, int) {
	var out []string
	var vars []api.Var
	count := 0
	for _, network := range l {
		names := map[string]string{} // of functions' nodes, in a text that no wire has
		of := make([]string, len(network.Nodes))
		for i, n := range network.Nodes {
			if n.Op != api.FbFunc {
				continue
			}
			count++
			of[i] = "_N" + strconv.Itoa(count)
			if names[n.Name] == "" {
				names[n.Name] = of[i]
			}
			vars = append(vars, hidden("_N", count, api.VarTemp, n.Kind))
		}
		order, ring := orderModel(network.Nodes)
		if ring >= 0 {
			return "", nil, network.Nodes[ring].At
		}
		for _, i := range order {
			n := network.Nodes[i]
			place := strconv.Itoa(n.At)
			args := argsText(n, names)
			switch n.Op {
			case api.FbFunc:
				out = append(out, place+"> 0:"+of[i]+" := "+place+":"+n.Func+"("+args+");")
			case api.FbBlock:
				out = append(out, place+"> "+n.Name+"("+args+"|);")
			case api.FbOut:
				wire := "0:TRUE"
				if len(n.Wires) > 0 {
					wire = wireText(n.Wires[0], names)
				}
				out = append(out, place+"> 0:"+n.Name+" := "+wire+";")
			}
		}
	}
	return strings.Join(out, " "), vars, -1
}

func argsText(n api.Node, names map[string]string) string {
	var l []string
	for i, w := range n.Wires {
		s := wireText(w, names)
		if n.Names[i] != "" {
			s = n.Names[i] + " := " + s
		}
		l = append(l, s)
	}
	return strings.Join(l, ", ")
}

func wireText(e api.Expr, names map[string]string) string {
	switch {
	case e.Op == api.OpNot:
		return "(" + at(e.At, "NOT ") + wireText(e.Kids[0], names) + ")"
	case e.Op == api.OpNeg:
		return "(" + at(e.At, "-") + wireText(e.Kids[0], names) + ")"
	case e.Op == api.ExName && names[e.Name] != "":
		return at(e.At, names[e.Name])
	}
	return at(e.At, shown.Expr(e))
}
