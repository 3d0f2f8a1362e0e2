package ir_test

import (
	"strconv"
	"strings"

	"relay/api"
	"relay/value"
)

// The rows of both tables of the chapter, in its words; what stands for a list of parts is done by the model.
var exprRows = map[int]string{
	api.ExLit:   "IrConst A fresh, Value",
	api.ExName:  "IrLoad A fresh, B Area, C Ref",
	api.ExField: "IrLoad A fresh, B Area, C Ref",
	api.ExIndex: "i; IrLoadX A fresh, B Area, C Ref, D i, Lo From, Hi To",
	api.OpNeg:   "a; IrTurn A fresh, B a, D op",
	api.OpNot:   "a; IrTurn A fresh, B a, D op",
	api.ExConv:  "a; IrConv A fresh, B a, D Kind",
}

const (
	binaryRow   = "a; b; IrDo A fresh, B a, C b, D op"
	refRow      = "IrRef A fresh, B Area, C Ref"
	refIndexRow = "i; IrRefX A fresh, B Area, C Ref, D i, Lo From, Hi To"
	argRow      = "IrArg A it"
	standardRow = "IrStd A fresh, C many, D Ref"
	checkRow    = "IrCheck A it, Lo From, Hi To"
	textRow     = "IrText A it, Hi To"
	paramRow    = "IrStore A it, B AreaGlobal, C together"
	callRow     = "IrCall B Ref, C AreaGlobal, D From; IrLoad A fresh, B AreaGlobal, C From"

	setRow      = "r; Check; Text; IrStore A r, B Area, C Ref"
	setIndexRow = "i; r; Check; Text; IrStoreX A r, B Area, C Ref, D i, Lo From, Hi To"
	setCheckRow = "IrCheck A r, Lo Low, Hi High"
	setTextRow  = "IrText A r, Hi Num"
	ifRow       = "c; IrUnless A c to N; Body; N:"
	ifElseRow   = "c; IrUnless A c to N; Body; IrJump to E; N: Else; E:"
	caseRow     = "s; Arms; Else; E:"
	armRow      = "t; IrUnless A t to N; Body; IrJump to E; N:"
	oneRow      = "l IrConst Low; IrDo OpEq of s, l"
	rangeRow    = "l IrConst Low; p IrDo OpGe of s, l; h IrConst High; q IrDo OpLe of s, h; IrDo OpAnd of p, q"
	orRow       = "IrDo OpOr of was, it"
	forRow      = "k IrConst LINT 0; H: n IrConst LINT Num; t IrDo OpLt of k, n; IrUnless A t to E; b IrConst by; m IrDo OpMul of k, b; f IrConst from; v IrDo OpAdd of f, m; w IrConv A fresh, B v, D Kind; IrStore A w, B Area, C Ref; Body; o IrConst LINT 1; p IrDo OpAdd of k, o; IrMove A k, B p; IrJump B H; E:"
	whileRow    = "k IrConst LINT 0; H: c; IrUnless A c to E; n IrConst LINT Num; t IrDo OpLt of k, n; IrUnless A t to F; o IrConst LINT 1; p IrDo OpAdd of k, o; IrMove A k, B p; Body; IrJump B H; F: IrFault A FaultLoop; E:"
	repeatRow   = "k IrConst LINT 0; H: n IrConst LINT Num; t IrDo OpLt of k, n; IrUnless A t to F; o IrConst LINT 1; p IrDo OpAdd of k, o; IrMove A k, B p; Body; c; IrUnless A c, B H; IrJump to E; F: IrFault A FaultLoop; E:"
	exitRow     = "IrJump to E"
	returnRow   = "IrReturn"
	instanceRow = "IrCall B Num, C Area, D Ref"
	blockRow    = "IrBlock B less, C Area, D Ref"
	jumpIfRow   = "c; n IrTurn A fresh, B c, D OpNot; IrUnless A n to X"
	jumpRow     = "IrJump to X"
	labelRow    = "X:"
)

var instructionWords = strings.Fields("IrConst IrMove IrLoad IrStore IrLoadX IrStoreX IrRef IrRefX IrDo IrTurn IrConv IrArg IrStd IrCheck IrText IrJump IrUnless IrCall IrBlock IrFault IrReturn")

var numberWords = map[string]int{
	"OpAdd": api.OpAdd, "OpMul": api.OpMul, "OpAnd": api.OpAnd, "OpOr": api.OpOr, "OpEq": api.OpEq, "OpLt": api.OpLt, "OpLe": api.OpLe, "OpGe": api.OpGe,
	"OpNot": api.OpNot, "AreaGlobal": api.AreaGlobal, "FaultLoop": api.FaultLoop,
}

// spot is a place, known or not yet.
type spot struct{ at int }

// waits is a field B of an instruction that leads to a spot.
type waits struct {
	at int
	to *spot
}

// model makes instructions by the rows; places are put in when all is there.
type model struct {
	ops   []api.Op
	waits []waits
	regs  int
	loops []modelLoop
	exits []*spot
}

type modelLoop struct {
	head, end *spot
	times     int
}

// scope is what the words of a row mean: numbers (registers among them), values, places, and parts that put something and tell a register.
type scope struct {
	numbers map[string]int
	values  map[string]api.Value
	spots   map[string]*spot
	parts   map[string]func() int
}

func newScope() scope {
	return scope{map[string]int{}, map[string]api.Value{}, map[string]*spot{}, map[string]func() int{}}
}

func (s scope) spot(name string) *spot {
	if s.spots[name] == nil {
		s.spots[name] = &spot{-1}
	}
	return s.spots[name]
}

func (s scope) number(word string) int {
	if n, is := s.numbers[word]; is {
		return n
	}
	if n, is := numberWords[word]; is {
		return n
	}
	n, err := strconv.Atoi(word)
	if err != nil {
		panic("no number: " + word)
	}
	return n
}

// do does a row, and tells the register of its last instruction that gave one.
func (m *model) do(row string, s scope) int {
	last := -1
	for _, step := range strings.Split(row, "; ") {
		name, rest, labelled := strings.Cut(step, ":")
		if labelled {
			s.spot(name).at = len(m.ops)
			step = strings.TrimSpace(rest)
		}
		if step == "" {
			continue
		}
		if put := s.parts[step]; put != nil {
			last = put()
			s.numbers[step] = last
			continue
		}
		words := strings.Fields(step)
		if !strings.HasPrefix(words[0], "Ir") {
			last = m.instruction(words[1], strings.TrimPrefix(step, words[0]+" "+words[1]), s)
			s.numbers[words[0]] = last
			continue
		}
		last = m.instruction(words[0], strings.TrimPrefix(step, words[0]), s)
	}
	return last
}

// instruction puts an instruction of a row.
func (m *model) instruction(word, rest string, s scope) int {
	o := api.Op{}
	for i, w := range instructionWords {
		if w == word {
			o.Code = i + 1
		}
	}
	rest = strings.TrimSpace(rest)
	if field, to, is := strings.Cut(rest, "to "); is {
		m.waits = append(m.waits, waits{len(m.ops), s.spot(to)})
		rest = strings.TrimSpace(field)
	}
	gives := -1
	switch {
	case rest == "":
	case o.Code == api.IrConst:
		gives = m.fresh()
		o.A, o.Value = gives, s.constant(strings.TrimPrefix(rest, "A fresh, "))
	case strings.Contains(rest, " of "):
		op, args, _ := strings.Cut(rest, " of ")
		left, right, _ := strings.Cut(args, ", ")
		gives = m.fresh()
		o.A, o.B, o.C, o.D = gives, s.number(left), s.number(right), s.number(op)
	default:
		for _, pair := range strings.Split(rest, ", ") {
			field, what, _ := strings.Cut(pair, " ")
			n := 0
			switch {
			case what == "fresh":
				gives = m.fresh()
				n = gives
			case field == "B" && (word == "IrJump" || word == "IrUnless"):
				m.waits = append(m.waits, waits{len(m.ops), s.spot(what)})
			default:
				n = s.number(what)
			}
			*map[string]*int{"A": &o.A, "B": &o.B, "C": &o.C, "D": &o.D, "Lo": &o.Lo, "Hi": &o.Hi}[field] = n
		}
	}
	m.ops = append(m.ops, o)
	return gives
}

func (m *model) fresh() int {
	m.regs++
	return m.regs - 1
}

func (s scope) constant(what string) api.Value {
	if digits, is := strings.CutPrefix(what, "LINT "); is {
		return api.Value{Kind: api.KLint, Bits: uint64(s.number(digits))}
	}
	v, is := s.values[what]
	if !is {
		panic("no value: " + what)
	}
	return v
}

func (m *model) expr(e api.Expr) int {
	s := newScope()
	s.numbers["Area"], s.numbers["Ref"], s.numbers["From"], s.numbers["To"] = e.Area, e.Ref, e.From, e.To
	s.numbers["Kind"], s.numbers["op"], s.values["Value"] = int(e.Kind), e.Op, e.Value
	for i, name := range []string{"a", "b"} {
		s.parts[name] = func() int { return m.expr(e.Kids[i]) }
	}
	s.parts["i"] = s.parts["a"]
	switch {
	case e.Op >= api.OpAdd && e.Op <= api.OpGe:
		return m.do(binaryRow, s)
	case e.Op == api.ExRef:
		place := e.Kids[0]
		s.numbers["Area"], s.numbers["Ref"], s.numbers["From"], s.numbers["To"] = place.Area, place.Ref, place.From, place.To
		if place.Op != api.ExIndex {
			return m.do(refRow, s)
		}
		s.parts["i"] = func() int { return m.expr(place.Kids[0]) }
		return m.do(refIndexRow, s)
	case e.Op == api.ExCall && e.Area == 0:
		m.each(e.Kids, func(kid api.Expr) api.Expr { return kid }, func(kid api.Expr, s scope) { m.do(argRow, s) })
		s.numbers["many"] = len(e.Kids)
		return m.do(standardRow, s)
	case e.Op == api.ExCall:
		m.each(e.Kids, func(kid api.Expr) api.Expr { return kid.Kids[0] }, func(kid api.Expr, s scope) {
			s.numbers["From"], s.numbers["To"], s.numbers["together"] = kid.From, kid.To, e.From+kid.Ref
			if kid.Area == 1 {
				m.do(checkRow, s)
			}
			if kid.Area == 2 {
				m.do(textRow, s)
			}
			m.do(paramRow, s)
		})
		return m.do(callRow, s)
	}
	return m.do(exprRows[e.Op], s)
}

// each puts all expressions first, and then something for each of them, "it" being its register.
func (m *model) each(l []api.Expr, what func(api.Expr) api.Expr, then func(e api.Expr, s scope)) {
	var regs []int
	for _, e := range l {
		regs = append(regs, m.expr(what(e)))
	}
	for i, e := range l {
		s := newScope()
		s.numbers["it"] = regs[i]
		then(e, s)
	}
}

// list does statements; labels are those of the list alone.
func (m *model) list(l []api.Stmt) int {
	labels := newScope()
	for _, s := range l {
		m.stmt(s, labels)
	}
	return -1
}

func (m *model) stmt(x api.Stmt, labels scope) {
	s := newScope()
	s.numbers["Num"], s.numbers["less"], s.numbers["Area"], s.numbers["Ref"], s.numbers["Kind"] = x.Num, -x.Num, x.Area, x.Ref, int(x.Kind)
	s.parts["Body"] = func() int { return m.list(x.Body) }
	s.parts["Else"] = func() int { return m.list(x.Else) }
	s.parts["c"] = func() int { return m.expr(x.Exprs[0]) }
	switch x.Op {
	case api.StSet:
		m.set(x, s)
	case api.StIf:
		row := ifRow
		if len(x.Else) > 0 {
			row = ifElseRow
		}
		m.do(row, s)
	case api.StCase:
		s.parts["s"] = s.parts["c"]
		s.parts["Arms"] = func() int { m.arms(x, s); return -1 }
		m.do(caseRow, s)
	case api.StFor:
		s.values["from"], s.values["by"] = asLint(x.Exprs[0].Value), asLint(x.Exprs[1].Value)
		m.loop(forRow, x, s)
	case api.StWhile:
		m.loop(whileRow, x, s)
	case api.StRepeat:
		m.loop(repeatRow, x, s)
	case api.StExit:
		s.spots["E"] = m.exits[len(m.exits)-1]
		m.do(exitRow, s)
	case api.StReturn:
		m.do(returnRow, s)
	case api.StCall:
		row := instanceRow
		if x.Num < 0 {
			row = blockRow
		}
		m.do(row, s)
	case api.StLabel:
		s.spots["X"] = labels.spot(x.Name)
		m.do(labelRow, s)
	case api.StJump:
		s.spots["X"] = labels.spot(x.Name)
		row := jumpRow
		if len(x.Exprs) > 0 {
			row = jumpIfRow
		}
		m.do(row, s)
	}
}

func asLint(v api.Value) api.Value {
	n, _ := value.Number(v)
	return api.Value{Kind: api.KLint, Bits: uint64(n)}
}

func (m *model) set(x api.Stmt, s scope) {
	place := x.Exprs[0]
	s.numbers["Area"], s.numbers["Ref"], s.numbers["From"], s.numbers["To"] = place.Area, place.Ref, place.From, place.To
	s.parts["r"] = func() int { return m.expr(x.Exprs[1]) }
	s.parts["Check"] = func() int {
		for _, r := range x.Ranges {
			s.numbers["Low"], s.numbers["High"] = r.Lo, r.Hi
			m.do(setCheckRow, s)
		}
		return -1
	}
	s.parts["Text"] = func() int {
		if x.Num > 0 {
			m.do(setTextRow, s)
		}
		return -1
	}
	// These rows lean on the register r, which the parts above find there.
	row := setRow
	if place.Op == api.ExIndex {
		s.parts["i"] = func() int { return m.expr(place.Kids[0]) }
		row = setIndexRow
	}
	m.do(row, s)
}

// arms does the arms of a StCase, in whose scope s is the register and E the end.
func (m *model) arms(x api.Stmt, outer scope) {
	of := func(n int) api.Value { return api.Value{Kind: x.Exprs[0].Kind, Bits: uint64(n)} }
	for _, arm := range x.Body {
		s := newScope()
		s.spots["E"] = outer.spot("E")
		s.parts["Body"] = func() int { return m.list(arm.Body) }
		s.parts["t"] = func() int {
			is := -1
			for i, r := range arm.Ranges {
				one := newScope()
				one.numbers["s"] = outer.numbers["s"]
				one.values["Low"], one.values["High"] = of(r.Lo), of(r.Hi)
				row := rangeRow
				if r.Lo == r.Hi {
					row = oneRow
				}
				it := m.do(row, one)
				if i > 0 {
					one.numbers["was"], one.numbers["it"] = is, it
					it = m.do(orRow, one)
				}
				is = it
			}
			return is
		}
		m.do(armRow, s)
	}
}

// loop does a row that is a loop: its H and E are the loop's.
func (m *model) loop(row string, x api.Stmt, s scope) {
	m.loops = append(m.loops, modelLoop{s.spot("H"), s.spot("E"), x.Num})
	m.exits = append(m.exits, s.spot("E"))
	m.do(row, s)
	m.exits = m.exits[:len(m.exits)-1]
}

// modelBuild is what Build must answer, as long as there are not too many instructions.
func modelBuild(c api.Code) api.Flat {
	m := &model{}
	m.list(c.Body)
	m.do(returnRow, newScope())
	for _, w := range m.waits {
		m.ops[w.at].B = w.to.at
	}
	f := api.Flat{Name: c.Name, What: c.What, Cells: c.Cells, Base: c.Base, Regs: m.regs, Ops: m.ops}
	for _, l := range m.loops {
		f.Loops = append(f.Loops, api.Loop{Head: l.head.at, End: l.end.at, Times: l.times})
	}
	return f
}
