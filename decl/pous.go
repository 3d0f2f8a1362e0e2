package decl

import (
	"strings"

	"relay/api"
)

// pou reads a POU behind its first word; another word ends it.
func (p *parser) pou(what int, end string) {
	name := p.newName(len(p.project.Pous) < api.MaxPous)
	pou := api.Pou{What: what, Name: name.Text, At: name.At, Source: p.source}
	if what == api.PouFunction {
		p.Want(":")
		pou.Result = p.simple()
	}
	s := newScope(what, name.Text)
	p.sections(&s)
	pou.Vars = s.vars
	p.body(&pou, end)
	p.names[name.Text]++
	p.project.Pous = append(p.project.Pous, pou)
}

// body takes a body as it stands, up to the word that ends it.
func (p *parser) body(pou *api.Pou, end string) {
	pou.Lang, pou.From = api.LangST, p.Behind()
	first := p.Peek()
	if lang := p.langs[first.Text]; first.Kind == api.TokPragma && lang > 0 {
		pou.Lang, pou.From = lang, first.End
	}
	for !p.Done() && !p.atPouEnd() {
		p.Skip()
	}
	last := p.Peek().At
	p.Want(end)
	pou.Text = strings.Clone(p.text[pou.From:last])
}

func (p *parser) atPouEnd() bool {
	return p.Sees("END_FUNCTION") || p.Sees("END_FUNCTION_BLOCK") || p.Sees("END_PROGRAM")
}
