package st

import (
	"strconv"

	"relay/api"
	"relay/value"
	"relay/words"
)

// printer writes trees as a text. It gives up where there are more words than a text may have, too.
type printer struct {
	words.Text
	around int // statements around
	exprs  int // so far; each of them has a word of its own
}

// begin writes a line's blanks and what stands there first.
func (p *printer) begin(parts ...string) {
	for range p.around {
		p.Put("  ")
	}
	p.Put(parts...)
}

// line writes a whole line.
func (p *printer) line(parts ...string) {
	p.begin(parts...)
	p.Put("\n")
}

// expr writes an expression where the grammar wants one of a level at least.
func (p *printer) expr(e api.Expr, least int) {
	p.exprs++
	p.Must(p.exprs <= api.MaxTokens)
	if levelOf(e.Op) >= least {
		p.bare(e)
		return
	}
	p.Put("(")
	p.bare(e)
	p.Put(")")
}

// bare writes an expression without brackets around it.
func (p *printer) bare(e api.Expr) {
	switch e.Op {
	case api.ExLit:
		p.literal(e.Value)
	case api.ExName:
		p.Put(e.Name)
	case api.ExIndex:
		p.Must(len(e.Kids) == 1)
		p.Put(e.Name, "[")
		p.expr(e.Kids[0], levelOr)
		p.Put("]")
	case api.ExField:
		p.Put(e.Name, ".", e.Field)
	case api.ExCall:
		p.Put(e.Name)
		p.arguments(argList{exprs: e.Kids, names: e.Names})
	default:
		p.operation(e)
	}
}

func (p *printer) operation(e api.Expr) {
	switch {
	case isRow(e.Op):
		p.Must(len(e.Kids) == 2)
		row := rows[e.Op]
		p.expr(e.Kids[0], row.level)
		p.Put(" ", row.text, " ")
		p.expr(e.Kids[1], row.level+1)
		return
	case e.Op == api.OpNeg:
		p.Put("-")
	case e.Op == api.OpNot:
		p.Put("NOT ")
	default:
		p.Must(false)
	}
	p.Must(len(e.Kids) == 1)
	p.expr(e.Kids[0], levelUnary)
}

func (p *printer) literal(v api.Value) {
	switch {
	case v.Kind == api.KNone:
		p.Put(strconv.FormatUint(v.Bits, 10))
	case v.Kind == api.KBool:
		p.Put(value.Print(v))
	case v.Kind >= api.KSint && v.Kind <= api.KLword:
		p.Put(value.Word(v.Kind), "#", value.Print(v))
	default:
		p.Must(false)
	}
}

func (p *printer) arguments(l argList) {
	p.Must(len(l.exprs) == len(l.names) && len(l.outs) == len(l.outNames))
	p.Put("(")
	between := ""
	for i, e := range l.exprs {
		p.Put(between)
		if l.names[i] != "" {
			p.Put(l.names[i], " := ")
		}
		p.expr(e, levelOr)
		between = ", "
	}
	for i, e := range l.outs {
		p.Put(between, l.outNames[i], " => ")
		p.expr(e, levelOr)
		between = ", "
	}
	p.Put(")")
}
