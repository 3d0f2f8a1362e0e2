package graph_test

import (
	"math/rand"
	"reflect"
	"strings"
	"testing"

	"relay/api"
	"relay/graph"
	"relay/value"
)

// maker writes texts that have no fault, and beside them knows what they say, with places, and their printed form.
type maker struct {
	r    *rand.Rand
	b    strings.Builder
	form strings.Builder
}

func newMaker(seed int64) *maker { return &maker{r: rand.New(rand.NewSource(seed))} }

func (m *maker) pick(words string) string {
	l := strings.Fields(words)
	return l[m.r.Intn(len(l))]
}

// put writes a word in some letters, and blanks behind it; it answers the word's place.
func (m *maker) put(s string) int {
	at := m.b.Len()
	if m.r.Intn(2) == 0 && !strings.HasPrefix(s, "'") {
		s = strings.ToLower(s)
	}
	m.b.WriteString(s)
	m.b.WriteString([]string{" ", "\t", "\n", " (* RUNG *) ", "\r\n // x;\n"}[m.r.Intn(5)])
	return at
}

// both writes a word and its form.
func (m *maker) both(s string) int {
	m.form.WriteString(s)
	return m.put(s)
}

func (m *maker) name() string {
	return m.pick("A B Q_1 T N LD X9 INT_TO_DINT ABCDEFGHIJKLMNOPQRSTUVWX")
}

func (m *maker) ladder(count int) []api.Rung {
	var l []api.Rung
	for range count {
		rung := api.Rung{At: m.both("RUNG")}
		m.form.WriteString(" ")
		rung.Contacts = m.contacts(0)
		m.both("=>")
		m.form.WriteString(" ")
		rung.Coils = append(rung.Coils, m.marked(api.LdCoil))
		for range m.r.Intn(3) {
			m.both(",")
			m.form.WriteString(" ")
			rung.Coils = append(rung.Coils, m.marked(api.LdCoil))
		}
		m.both(";")
		m.form.WriteString("\n")
		l = append(l, rung)
	}
	return l
}

func (m *maker) contacts(deep int) []api.Element {
	var l []api.Element
	for range m.r.Intn(4) {
		if deep < 5 && m.r.Intn(4) == 0 {
			l = append(l, m.branches(deep+1))
		} else {
			l = append(l, m.marked(api.LdOpen))
		}
		m.form.WriteString(" ")
	}
	return l
}

func (m *maker) branches(deep int) api.Element {
	e := api.Element{Op: api.LdBranches, At: m.both("[")}
	m.form.WriteString(" ")
	e.Branches = append(e.Branches, m.contacts(deep))
	for range m.r.Intn(4) {
		m.both("|")
		m.form.WriteString(" ")
		e.Branches = append(e.Branches, m.contacts(deep))
	}
	m.both("]")
	return e
}

func (m *maker) marked(plain int) api.Element {
	kind := m.r.Intn(4)
	e := api.Element{Op: plain + kind, At: m.b.Len()}
	if kind > 0 {
		m.both("!+-"[kind-1 : kind])
	}
	e.Name = m.name()
	m.both(e.Name)
	if m.r.Intn(3) == 0 {
		m.both(".")
		field := m.name()
		m.both(field)
		e.Name += "." + field
	}
	return e
}

// networks writes networks; of each the functions' nodes have names of their own.
func (m *maker) networks(count int) []api.Network {
	var l []api.Network
	for range count {
		network := api.Network{At: m.both("NETWORK")}
		m.form.WriteString("\n")
		names := strings.Fields("N A1 T Q A")
		for range m.r.Intn(6) {
			m.form.WriteString("  ")
			var n api.Node
			switch kind := m.r.Intn(3); {
			case kind == 0 && len(names) > 0:
				n = m.function(names[0])
				names = names[1:]
			case kind == 1:
				n = m.instance()
			default:
				n = m.output()
			}
			m.both(";")
			m.form.WriteString("\n")
			network.Nodes = append(network.Nodes, n)
		}
		m.both("END_NETWORK")
		m.form.WriteString("\n")
		l = append(l, network)
	}
	return l
}

func (m *maker) function(name string) api.Node {
	n := api.Node{Op: api.FbFunc, Name: name, Kind: api.KBool + api.Kind(m.r.Intn(19)), Func: m.pick("ADD AND OR XOR NOT MOD SEL N")}
	m.form.WriteString(name + " : " + value.Word(n.Kind) + " := " + n.Func)
	n.At = m.put(name)
	for _, s := range []string{":", value.Word(n.Kind), ":=", n.Func} {
		m.put(s)
	}
	m.both("(")
	for i := range 1 + m.r.Intn(4) {
		m.between(i)
		formal := ""
		if m.r.Intn(3) == 0 {
			formal = m.formal()
		}
		n.Names, n.Wires = append(n.Names, formal), append(n.Wires, m.wire())
	}
	m.both(")")
	return n
}

func (m *maker) instance() api.Node {
	n := api.Node{Op: api.FbBlock, Name: m.name()}
	n.At = m.both(n.Name)
	m.both("(")
	for i := range m.r.Intn(4) {
		m.between(i)
		n.Names, n.Wires = append(n.Names, m.formal()), append(n.Wires, m.wire())
	}
	m.both(")")
	return n
}

func (m *maker) output() api.Node {
	n := api.Node{Op: api.FbOut, At: m.b.Len(), Name: m.name(), Names: []string{""}}
	n.Wires = []api.Expr{m.wire()}
	m.form.WriteString(" => " + n.Name)
	m.put("=>")
	m.put(n.Name)
	return n
}

// between writes what stands ahead of the wire of that number.
func (m *maker) between(i int) {
	if i > 0 {
		m.put(",")
		m.form.WriteString(", ")
	}
}

func (m *maker) formal() string {
	name := m.pick("IN IN2 PT NOT1")
	m.form.WriteString(name + " := ")
	m.put(name)
	m.put(":=")
	return name
}

func (m *maker) wire() api.Expr {
	if m.r.Intn(3) > 0 {
		return m.plainWire()
	}
	m.form.WriteString("NOT ")
	e := api.Expr{Op: api.OpNot, At: m.put("NOT")}
	e.Kids = []api.Expr{m.plainWire()}
	return e
}

// literals are those that have a printed form, and it.
var literals = []struct {
	word, form string
	value      api.Value
}{
	{"TRUE", "TRUE", api.Value{Kind: api.KBool, Bits: 1}}, {"BOOL#0", "FALSE", api.Value{Kind: api.KBool}}, {"INT#-5", "INT#-5", api.Value{Kind: api.KInt, Bits: 1<<64 - 5}}, {"WORD#16#ff", "WORD#16#FF", api.Value{Kind: api.KWord, Bits: 255}}, {"ULINT#18446744073709551615", "ULINT#18446744073709551615", api.Value{Kind: api.KUlint, Bits: 1<<64 - 1}},
}

func (m *maker) plainWire() api.Expr {
	switch m.r.Intn(4) {
	case 0:
		l := literals[m.r.Intn(len(literals))]
		m.form.WriteString(l.form)
		return api.Expr{Op: api.ExLit, At: m.put(l.word), Value: l.value}
	case 1:
		if m.r.Intn(2) == 0 {
			return m.number()
		}
		e := api.Expr{Op: api.OpNeg, At: m.both("-")}
		e.Kids = []api.Expr{m.number()}
		return e
	}
	e := api.Expr{Op: api.ExName, Name: m.name()}
	e.At = m.both(e.Name)
	if m.r.Intn(2) == 0 {
		m.both(".")
		e.Op, e.Field = api.ExField, m.name()
		m.both(e.Field)
	}
	return e
}

func (m *maker) number() api.Expr {
	if m.r.Intn(2) == 0 {
		m.form.WriteString("255")
		return api.Expr{Op: api.ExLit, At: m.put("16#fF"), Value: api.Value{Bits: 255}}
	}
	return api.Expr{Op: api.ExLit, At: m.both("18446744073709551615"), Value: api.Value{Bits: 1<<64 - 1}}
}

func ladder(t *testing.T, src string) []api.Rung {
	t.Helper()
	l, err := graph.Ladder(src)
	if err != nil {
		t.Fatalf("%.300q: %v", src, err)
	}
	return l
}

func networks(t *testing.T, src string) []api.Network {
	t.Helper()
	l, err := graph.Networks(src)
	if err != nil {
		t.Fatalf("%.300q: %v", src, err)
	}
	return l
}

// forget sets all places to 0, and lists without elements to nil.
func forget(v reflect.Value) {
	switch v.Kind() {
	case reflect.Slice:
		if v.Len() == 0 {
			v.SetZero()
		}
		for i := range v.Len() {
			forget(v.Index(i))
		}
	case reflect.Struct:
		for i := range v.NumField() {
			if v.Type().Field(i).Name == "At" {
				v.Field(i).SetZero()
			} else {
				forget(v.Field(i))
			}
		}
	}
}

// placeless takes the places out of a list that is the caller's own.
func placeless[T any](l []T) []T {
	forget(reflect.ValueOf(&l).Elem())
	return l
}

func alike[T any](a, b []T) bool { return len(a) == 0 && len(b) == 0 || reflect.DeepEqual(a, b) }
