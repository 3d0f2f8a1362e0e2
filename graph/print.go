package graph

import (
	"relay/api"
	"relay/st"
	"relay/value"
	"relay/words"
)

// printer writes ladders and networks as a text. What it does not give up at may still be read as something else.
type printer struct{ words.Text }

// form is the text of parts, one behind the other; empty, if one has none.
func form[T any](l []T, part func(*printer, T)) (text string) {
	// With what a printer gives up at, the text stays empty.
	defer func() { words.Caught(recover()) }()
	p := printer{}
	for _, x := range l {
		part(&p, x)
	}
	return p.String()
}

func (p *printer) rung(rung api.Rung) {
	p.Put("RUNG ")
	p.contacts(rung.Contacts)
	p.Put("=> ")
	for i, e := range rung.Coils {
		if i > 0 {
			p.Put(", ")
		}
		p.marked(e, api.LdCoil)
	}
	p.Put(";\n")
}

func (p *printer) contacts(l []api.Element) {
	for _, e := range l {
		if e.Op == api.LdBranches {
			p.branches(e.Branches)
		} else {
			p.marked(e, api.LdOpen)
		}
		p.Put(" ")
	}
}

func (p *printer) branches(l [][]api.Element) {
	p.Put("[ ")
	for i, branch := range l {
		if i > 0 {
			p.Put("| ")
		}
		p.contacts(branch)
	}
	p.Put("]")
}

// marked writes an element whose Op is the plain one, or one of those behind it that have marks.
func (p *printer) marked(e api.Element, plain int) {
	mark := e.Op - plain
	p.Must(mark >= 0 && mark < len(marks))
	p.Put(marks[mark], e.Name)
}

func (p *printer) network(network api.Network) {
	p.Put("NETWORK\n")
	for _, n := range network.Nodes {
		p.Put("  ")
		p.node(n)
		p.Put(";\n")
	}
	p.Put("END_NETWORK\n")
}

func (p *printer) node(n api.Node) {
	p.Must(len(n.Names) == len(n.Wires))
	switch n.Op {
	case api.FbFunc:
		p.Put(n.Name, " : ", value.Word(n.Kind), " := ", n.Func)
		p.wires(n)
	case api.FbBlock:
		p.Put(n.Name)
		p.wires(n)
	case api.FbOut:
		p.Must(len(n.Wires) == 1)
		p.wire(n.Wires[0])
		p.Put(" => ", n.Name)
	}
}

// wires writes brackets, and a node's wires between.
func (p *printer) wires(n api.Node) {
	p.Put("(")
	for i, e := range n.Wires {
		if i > 0 {
			p.Put(", ")
		}
		if n.Names[i] != "" {
			p.Put(n.Names[i], " := ")
		}
		p.wire(e)
	}
	p.Put(")")
}

func (p *printer) wire(e api.Expr) {
	text := st.PrintExpr(e)
	// To find out that there is none may take long: once is enough.
	p.Must(text != "")
	p.Put(text)
}
