package decl

import (
	"relay/api"
	"relay/words"
)

// parser keeps what is declared so far, source by source.
type parser struct {
	typeReader
	source  int
	project api.Project
	names   map[string]int // how often a type, a POU or a standard block has a name
	consts  map[string]int // numbers of enumerations' names
	classes map[string]int // classes of variables, by their sections' words
	langs   map[string]int // languages, by their pragmas
	isSet   bool           // a configuration is known
	globals scope
}

func newParser() *parser {
	return &parser{
		typeReader: typeReader{types: map[string]api.Type{}},
		// The standard blocks' names are taken from the beginning on.
		names: map[string]int{
			"SR": 1, "RS": 1, "R_TRIG": 1, "F_TRIG": 1, "CTU": 1, "CTD": 1, "CTUD": 1, "TP": 1, "TON": 1, "TOF": 1,
		},
		consts: map[string]int{},
		classes: map[string]int{
			"VAR": api.VarLocal, "VAR_INPUT": api.VarIn, "VAR_OUTPUT": api.VarOut, "VAR_IN_OUT": api.VarInOut,
			"VAR_TEMP": api.VarTemp, "VAR_EXTERNAL": api.VarExternal, "VAR_GLOBAL": api.VarGlobal,
		},
		langs: map[string]int{
			"ST": api.LangST, "IL": api.LangIL, "LD": api.LangLD, "FBD": api.LangFBD, "SFC": api.LangSFC,
		},
		globals: newScope(noPou, ""),
	}
}

// declared is the whole project.
func (p *parser) declared() api.Project {
	p.project.Globals = p.globals.vars
	return p.project
}

// declarations reads a source.
func (p *parser) declarations() {
	for !p.Done() {
		switch {
		case p.Takes("TYPE"):
			p.typeList()
		case p.Takes("FUNCTION"):
			p.pou(api.PouFunction, "END_FUNCTION")
		case p.Takes("FUNCTION_BLOCK"):
			p.pou(api.PouBlock, "END_FUNCTION_BLOCK")
		case p.Takes("PROGRAM"):
			p.pou(api.PouProgram, "END_PROGRAM")
		case p.Takes("CONFIGURATION"):
			p.configuration()
		default:
			words.Fail(p.Peek().At, api.ErrToken)
		}
	}
}

// newName is a name that no type, POU or standard block has yet, if one more may be.
func (p *parser) newName(room bool) api.Token {
	t := p.Name()
	words.Must(room, t.At, api.ErrFull)
	words.Must(p.names[t.Text] == 0, t.At, api.ErrTwice)
	return t
}

func (p *parser) typeList() {
	for !p.Takes("END_TYPE") {
		name := p.newName(len(p.project.Types) < api.MaxTypes)
		p.Want(":")
		t := p.typeOrEnum()
		p.Want(";")
		p.names[name.Text]++
		p.types[name.Text] = t
		p.project.Types = append(p.project.Types, api.Named{Name: name.Text, At: name.At, Type: t})
	}
}

func (p *parser) typeOrEnum() api.Type {
	if !p.Takes("(") {
		return p.spec()
	}
	last := 0
	p.constant(last)
	for p.Takes(",") {
		last++
		p.constant(last)
	}
	p.Want(")")
	return api.Type{Kind: api.KInt, Sub: true, Hi: last}
}

// constant is a name of an enumeration, of the number n.
func (p *parser) constant(n int) {
	name := p.Name()
	words.Must(len(p.project.Consts) < api.MaxConsts, name.At, api.ErrFull)
	_, isConst := p.consts[name.Text]
	words.Must(!isConst && !p.globals.has(name.Text), name.At, api.ErrTwice)
	p.consts[name.Text] = n
	p.project.Consts = append(p.project.Consts, api.Const{Name: name.Text, At: name.At, Value: ordinal(n)})
}
