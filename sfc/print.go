package sfc

import (
	"strings"

	"relay/api"
	"relay/st"
	"relay/times"
	"relay/words"
)

// printer writes charts as a text. What it does not give up at may still be read as something else.
type printer struct{ words.Text }

// form is a chart's text; empty, if it gave up.
func form(c api.Chart) (text string) {
	defer func() { words.Caught(recover()) }()
	p := printer{}
	for _, s := range c.Steps {
		p.step(s)
	}
	for _, t := range c.Trans {
		p.transition(t)
	}
	for _, a := range c.Actions {
		p.action(a)
	}
	return p.String()
}

func (p *printer) step(s api.Step) {
	if s.Initial {
		p.Put("INITIAL_")
	}
	p.Put("STEP ", s.Name, ":\n")
	for _, link := range s.Links {
		p.Put("  ", link.Name, "(", link.Qual)
		if isTimed(link.Qual) {
			p.Put(", ", times.Print(api.Value{Kind: api.KTime, Bits: uint64(link.Time)}))
		}
		p.Put(");\n")
	}
	p.Put("END_STEP\n")
}

func (p *printer) transition(t api.Trans) {
	p.Put("TRANSITION ")
	if t.Name != "" {
		p.Put(t.Name, " ")
	}
	p.Put("FROM ")
	p.side(t.From)
	p.Put(" TO ")
	p.side(t.To)
	cond := st.PrintExpr(t.Cond)
	// To find out that there is no text may take long: once is enough.
	p.Must(cond != "")
	p.Put(" := ", cond, ";\nEND_TRANSITION\n")
}

func (p *printer) side(l []string) {
	if len(l) == 1 {
		p.Put(l[0])
		return
	}
	p.Put("(")
	for i, name := range l {
		if i > 0 {
			p.Put(", ")
		}
		p.Put(name)
	}
	p.Put(")")
}

func (p *printer) action(a api.Action) {
	body := st.Print(a.Body)
	// Of none the text is empty, too.
	p.Must(body != "" || len(a.Body) == 0)
	p.Put("ACTION ", a.Name, ":\n")
	for line := range strings.Lines(body) {
		p.Put("  ", line)
	}
	p.Put("END_ACTION\n")
}
