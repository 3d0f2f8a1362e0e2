package decl

import (
	"slices"

	"relay/api"
	"relay/lex"
	"relay/words"
)

// noPou is what a configuration is, beside api's functions, blocks and programs.
const noPou = 0

// scope is what has variables: a POU, or the configuration.
type scope struct {
	what  int
	name  string
	vars  []api.Var
	known map[string]int // numbers of variables, by their names
}

func newScope(what int, name string) scope {
	return scope{what: what, name: name, known: map[string]int{}}
}

func (s *scope) has(name string) bool {
	_, is := s.known[name]
	return is
}

// may tells whether a section of that class may stand there.
func (s *scope) may(class int) bool {
	if s.what == api.PouFunction && (class == api.VarOut || class == api.VarExternal) {
		return false
	}
	return (s.what == noPou) == (class == api.VarGlobal)
}

// mayKeep tells whether RETAIN may stand behind that section's word.
func (s *scope) mayKeep(class int) bool {
	switch class {
	case api.VarLocal, api.VarIn, api.VarOut, api.VarGlobal:
		return s.what != api.PouFunction
	}
	return false
}

// mayFix tells whether CONSTANT may stand behind a section's word.
func mayFix(class int) bool {
	return class == api.VarLocal || class == api.VarExternal || class == api.VarGlobal
}

// sections reads all sections that stand one behind the other.
func (p *parser) sections(s *scope) {
	for {
		t := p.Peek()
		class := p.classes[t.Text]
		if t.Kind != api.TokWord || class == 0 {
			return
		}
		words.Must(s.may(class), t.At, api.ErrToken)
		p.Skip()
		p.section(s, class)
	}
}

// section reads a section behind its word.
func (p *parser) section(s *scope, class int) {
	shape := api.Var{Class: class}
	t := p.Peek()
	switch {
	case p.Takes("RETAIN"):
		words.Must(s.mayKeep(class), t.At, api.ErrToken)
		shape.Keep = true
	case p.Takes("CONSTANT"):
		words.Must(mayFix(class), t.At, api.ErrToken)
		shape.Fixed = true
	}
	for !p.Takes("END_VAR") {
		p.vars(s, shape)
		p.Want(";")
	}
}

// vars reads variables of one type.
func (p *parser) vars(s *scope, shape api.Var) {
	first := len(s.vars)
	p.variable(s, shape)
	for p.Takes(",") {
		p.variable(s, shape)
	}
	at := p.address(s, len(s.vars)-first == 1)
	p.Want(":")
	t := p.typeOf(s, shape.Class, at)
	init := p.initial(shape.Class, t)
	for i := range s.vars[first:] {
		v := &s.vars[first+i]
		v.Addr, v.Type = at.Text, t
		// Each has a list of its own.
		v.Init = slices.Clone(init)
	}
}

// variable reads a variable's name.
func (p *parser) variable(s *scope, shape api.Var) {
	name := p.Name()
	words.Must(len(s.vars) < api.MaxVars, name.At, api.ErrFull)
	_, isConst := p.consts[name.Text]
	isTaken := s.has(name.Text) || s.what == api.PouFunction && name.Text == s.name || s.what == noPou && isConst
	words.Must(!isTaken, name.At, api.ErrTwice)
	shape.Name, shape.At = name.Text, name.At
	s.known[name.Text] = len(s.vars)
	s.vars = append(s.vars, shape)
}

// address is the word behind AT, if that is next.
func (p *parser) address(s *scope, alone bool) api.Token {
	if !p.Takes("AT") {
		return api.Token{}
	}
	t := p.Token(api.TokAddr)
	isTaken := slices.ContainsFunc(s.vars, func(v api.Var) bool { return v.Addr == t.Text })
	words.Must(s.what == noPou && alone && !isTaken, t.At, api.ErrAddr)
	return t
}

// typeOf is the type of variables of a class, perhaps at an address.
func (p *parser) typeOf(s *scope, class int, at api.Token) api.Type {
	first := p.Peek().At
	t := p.spec()
	words.Must(mayBe(s.what, class, t), first, api.ErrSpec)
	if at.Text != "" {
		bits, _, _ := lex.IsAddr(at.Text)
		words.Must(!t.Array && !t.Sub && bits == width(t.Kind), at.At, api.ErrAddr)
	}
	return t
}

// mayBe tells whether variables of a class may be of a type.
func mayBe(what, class int, t api.Type) bool {
	switch class {
	case api.VarIn, api.VarOut, api.VarInOut:
		return !t.Array && t.Block == ""
	case api.VarTemp, api.VarExternal, api.VarGlobal:
		return t.Block == ""
	}
	return what != api.PouFunction || t.Block == ""
}

// width is how many bits a BOOL, an integer or a bit row has; 0 of other kinds.
func width(k api.Kind) int {
	switch k {
	case api.KBool:
		return 1
	case api.KSint, api.KUsint, api.KByte:
		return 8
	case api.KInt, api.KUint, api.KWord:
		return 16
	case api.KDint, api.KUdint, api.KDword:
		return 32
	case api.KLint, api.KUlint, api.KLword:
		return 64
	}
	return 0
}
