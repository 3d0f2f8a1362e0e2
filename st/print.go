package st

import (
	"strconv"

	"relay/api"
	"relay/value"
	"relay/words"
)

// printer writes trees as a text. It gives up, as readers do, at what has none, and where there are more bytes or words than a text may have: so it ends at trees that lead back into themselves, too.
type printer struct {
	text   []byte
	around int // statements around
	exprs  int // so far; each of them has a word of its own
}

// must gives up, unless a tree is as one with a text is.
func (p *printer) must(is bool) { words.Must(is, len(p.text), api.ErrArg) }

func (p *printer) put(parts ...string) {
	for _, s := range parts {
		p.must(len(p.text)+len(s) <= api.MaxSource)
		p.text = append(p.text, s...)
	}
}

// begin writes a line's blanks and what stands there first.
func (p *printer) begin(parts ...string) {
	for range p.around {
		p.put("  ")
	}
	p.put(parts...)
}

// line writes a whole line.
func (p *printer) line(parts ...string) {
	p.begin(parts...)
	p.put("\n")
}

// expr writes an expression where the grammar wants one of a level at least.
func (p *printer) expr(e api.Expr, least int) {
	p.exprs++
	p.must(p.exprs <= api.MaxTokens)
	if levelOf(e.Op) >= least {
		p.bare(e)
		return
	}
	p.put("(")
	p.bare(e)
	p.put(")")
}

// bare writes an expression without brackets around it.
func (p *printer) bare(e api.Expr) {
	switch e.Op {
	case api.ExLit:
		p.literal(e.Value)
	case api.ExName:
		p.put(e.Name)
	case api.ExIndex:
		p.must(len(e.Kids) == 1)
		p.put(e.Name, "[")
		p.expr(e.Kids[0], levelOr)
		p.put("]")
	case api.ExField:
		p.put(e.Name, ".", e.Field)
	case api.ExCall:
		p.put(e.Name)
		p.arguments(argList{exprs: e.Kids, names: e.Names})
	default:
		p.operation(e)
	}
}

func (p *printer) operation(e api.Expr) {
	switch {
	case isRow(e.Op):
		p.must(len(e.Kids) == 2)
		row := rows[e.Op]
		p.expr(e.Kids[0], row.level)
		p.put(" ", row.text, " ")
		p.expr(e.Kids[1], row.level+1)
		return
	case e.Op == api.OpNeg:
		p.put("-")
	case e.Op == api.OpNot:
		p.put("NOT ")
	default:
		p.must(false)
	}
	p.must(len(e.Kids) == 1)
	p.expr(e.Kids[0], levelUnary)
}

func (p *printer) literal(v api.Value) {
	switch {
	case v.Kind == api.KNone:
		p.put(strconv.FormatUint(v.Bits, 10))
	case v.Kind == api.KBool:
		p.put(value.Print(v))
	case v.Kind >= api.KSint && v.Kind <= api.KLword:
		p.put(value.Word(v.Kind), "#", value.Print(v))
	default:
		p.must(false)
	}
}

func (p *printer) arguments(l argList) {
	p.must(len(l.exprs) == len(l.names) && len(l.outs) == len(l.outNames))
	p.put("(")
	between := ""
	for i, e := range l.exprs {
		p.put(between)
		if l.names[i] != "" {
			p.put(l.names[i], " := ")
		}
		p.expr(e, levelOr)
		between = ", "
	}
	for i, e := range l.outs {
		p.put(between, l.outNames[i], " => ")
		p.expr(e, levelOr)
		between = ", "
	}
	p.put(")")
}
