package layout_test

import (
	"errors"
	"math/rand"
	"reflect"
	"strconv"
	"strings"
	"testing"

	"relay/api"
	"relay/blocks"
	"relay/decl"
	"relay/layout"
	"relay/value"
)

func project(t *testing.T, sources ...string) api.Project {
	t.Helper()
	p, source, err := decl.Parse(sources)
	if err != nil {
		t.Fatalf("%q: %d %v", sources, source, err)
	}
	return p
}

// maker writes sources by chance.
type maker struct{ r *rand.Rand }

func newMaker(seed int64) maker { return maker{rand.New(rand.NewSource(seed))} }

func (m maker) pick(words ...string) string { return words[m.r.Intn(len(words))] }

func (m maker) rarely(n int) bool { return m.r.Intn(n) == 0 }

const someTypes = "TYPE level : INT (5..9); low : SINT (-9..-5); around : DINT (-3..3); big : ULINT (7..9223372036854775807); colour : (red, green, blue); word8 : STRING[8]; row : ARRAY [-1..2] OF INT; rows : ARRAY [0..2] OF level; timer : TON; stamps : ARRAY [1..3] OF timer; alias : fb1; nowhere : nothing; END_TYPE "

// simple writes a type of one element, and perhaps an initial value.
func (m maker) simple(values bool) string {
	all := []string{"BOOL := TRUE", "SINT := -5", "INT := 7", "DINT", "LINT := 1", "USINT", "UINT", "UDINT := 4294967295", "ULINT := 18446744073709551615", "BYTE := 16#F", "WORD", "DWORD", "LWORD", "TIME := T#5s", "DATE := D#2000-01-01", "TOD", "DT", "LREAL := -0.0", "STRING := 'x'", "STRING[5] := 'abc'", "level := 6", "level", "low", "around", "big", "colour := green", "colour", "word8", "INT (1..3)", "UINT (0..5)", "LINT (-5..-2) := -3"}
	return m.cut(all[m.r.Intn(len(all))], values)
}

// cut takes the initial value off, if it may not stand there, or by chance.
func (m maker) cut(s string, values bool) string {
	kind, _, _ := strings.Cut(s, " :=")
	if !values || m.rarely(2) {
		return kind
	}
	return s
}

func (m maker) array(values bool) string {
	return m.cut(m.pick("ARRAY [1..3] OF INT := [1, 2]", "ARRAY [-2..2] OF level := [5, 6, 7]", "ARRAY [0..0] OF BOOL := [TRUE]", "ARRAY [5..7] OF low", "row := [1, 2, 3, 4]", "rows := [8]", "ARRAY [1..2] OF word8 := ['a']", "ARRAY [0..3] OF colour := [blue, red]"), values)
}

// instance writes a block's name.
func (m maker) instance(blocks int) string {
	switch n := m.r.Intn(30); {
	case n == 0:
		return m.pick("nothing", "nowhere", "f0", "p0")
	case n < 8:
		return m.pick("TON", "SR", "F_TRIG", "CTUD", "TP", "timer", "stamps", "CTU")
	case n == 9 && blocks > 1:
		return "alias"
	}
	return "fb" + strconv.Itoa(m.r.Intn(max(blocks, 1)))
}

// section writes variables of a class.
func (m maker) section(what, class string, count *int, blocks int) string {
	word := class
	switch {
	case what != "FUNCTION" && strings.Contains(" VAR VAR_INPUT VAR_OUTPUT ", " "+class+" ") && m.rarely(3):
		word += " RETAIN"
	case class == "VAR" && m.rarely(4):
		word += " CONSTANT"
	}
	s := word + " "
	for range m.r.Intn(3) {
		*count++
		s += "v" + strconv.Itoa(*count) + " : "
		values := class != "VAR_IN_OUT" && class != "VAR_EXTERNAL"
		switch {
		case class == "VAR" && what != "FUNCTION" && blocks > 0 && m.rarely(2):
			s += m.instance(blocks)
		case (class == "VAR" || class == "VAR_TEMP" || class == "VAR_EXTERNAL") && m.rarely(3):
			s += m.array(values)
		default:
			s += m.simple(values)
		}
		s += "; "
	}
	return s + "END_VAR "
}

// pou writes a POU; of a function block all that it holds come ahead, but for chance.
func (m maker) pou(what, name string, blocks int) string {
	s := what + " " + name
	classes := []string{"VAR", "VAR_INPUT", "VAR_OUTPUT", "VAR_IN_OUT", "VAR_TEMP", "VAR_EXTERNAL"}
	if what == "FUNCTION" {
		classes = []string{"VAR", "VAR_INPUT", "VAR_IN_OUT", "VAR_TEMP"}
		s += " : " + m.simple(false)
		if m.rarely(20) {
			s = what + " " + name + " : " + m.pick("timer", "alias", "nowhere")
		}
	}
	s += " "
	count := 0
	for range m.r.Intn(5) {
		s += m.section(what, m.pick(classes...), &count, blocks)
	}
	return s + "END_" + what + "\n"
}

// sources writes a project.
func (m maker) sources() []string {
	blocks, functions, programs := m.r.Intn(6), m.r.Intn(4), m.r.Intn(4)
	var pous []string
	for i := range blocks {
		inner := i
		if m.rarely(4) {
			inner = blocks
		}
		pous = append(pous, m.pou("FUNCTION_BLOCK", "fb"+strconv.Itoa(i), inner))
	}
	for i := range functions {
		pous = append(pous, m.pou("FUNCTION", "f"+strconv.Itoa(i), 0))
	}
	for i := range programs {
		pous = append(pous, m.pou("PROGRAM", "p"+strconv.Itoa(i), blocks))
	}
	m.r.Shuffle(len(pous), func(i, k int) { pous[i], pous[k] = pous[k], pous[i] })
	half := m.r.Intn(len(pous) + 1)
	l := []string{someTypes + strings.Join(pous[:half], ""), strings.Join(pous[half:], "")}
	if !m.rarely(6) {
		l[1] += m.configuration(programs)
	}
	return l
}

func (m maker) configuration(programs int) string {
	s := "CONFIGURATION c "
	for i := range m.r.Intn(4) {
		n := strconv.Itoa(i)
		s += "VAR_GLOBAL " + m.pick("", "RETAIN ", "CONSTANT ")
		s += m.pick("g"+n+" AT %IX"+n+".1 : BOOL := TRUE; ", "g"+n+" AT %QW"+n+" : INT; ", "g"+n+" AT %MD"+n+" : DWORD; ", "g"+n+" : "+m.simple(true)+"; ", "g"+n+", h"+n+" : "+m.array(true)+"; ")
		s += "END_VAR "
	}
	s += "RESOURCE r ON cpu "
	for i := range m.r.Intn(4) {
		name := "p" + strconv.Itoa(m.r.Intn(max(programs, 1)))
		if m.rarely(20) {
			name = m.pick("fb0", "f0", "nothing", "TON")
		}
		s += "PROGRAM m" + strconv.Itoa(i) + " : " + name + "; "
	}
	return s + "END_RESOURCE END_CONFIGURATION"
}

// hide puts hidden variables behind those of POUs.
func (m maker) hide(p api.Project) api.Project {
	p.Pous = append([]api.Pou{}, p.Pous...)
	for i := range p.Pous {
		for n := range m.r.Intn(3) {
			v := api.Var{Name: "_H" + strconv.Itoa(n), Class: m.r.Intn(2) + api.VarLocal, Type: api.Type{Kind: api.KBool}}
			switch m.r.Intn(4) {
			case 0:
				v.Type = api.Type{Block: m.pick("TON", "F_TRIG", "SR")}
			case 1:
				v.Init = []api.Value{value.Bool(true)}
			}
			p.Pous[i].Vars = append(p.Pous[i].Vars[:len(p.Pous[i].Vars):len(p.Pous[i].Vars)], v)
		}
	}
	return p
}

// The model: the chapter's words, one by one, however slow.

func modelVars(u api.Pou) []api.Var {
	var l []api.Var
	if u.What == api.PouFunction {
		l = append(l, api.Var{Name: u.Name, Type: u.Result, Class: api.VarLocal})
	}
	return append(l, u.Vars...)
}

// modelPou is the POU of a sort and name.
func modelPou(p api.Project, what int, name string) *api.Pou {
	for i := range p.Pous {
		if p.Pous[i].What == what && p.Pous[i].Name == name {
			return &p.Pous[i]
		}
	}
	return nil
}

// comesTo tells whether a function block has an instance of another, however deep.
func comesTo(p api.Project, from *api.Pou, name string, seen map[string]bool) bool {
	for _, v := range from.Vars {
		inner := modelPou(p, api.PouBlock, v.Type.Block)
		if inner == nil {
			continue
		}
		if inner.Name == name {
			return true
		}
		if !seen[inner.Name] {
			seen[inner.Name] = true
			if comesTo(p, inner, name, seen) {
				return true
			}
		}
	}
	return false
}

func modelCount(p api.Project, v api.Var) (int, api.Errno) {
	if v.Class == api.VarInOut {
		return 1, api.OK
	}
	if v.Class == api.VarExternal {
		return 0, api.OK
	}
	if v.Type.Block == "" {
		return decl.Cells(v.Type), api.OK
	}
	if kind, is := blocks.Kind(v.Type.Block); is {
		return blocks.Size(kind), api.OK
	}
	inner := modelPou(p, api.PouBlock, v.Type.Block)
	if inner == nil {
		return 0, api.ErrBlock
	}
	if comesTo(p, inner, inner.Name, map[string]bool{}) {
		return 0, api.ErrNest
	}
	n, why, _ := modelSize(p, *inner)
	return n, why
}

// modelSize is a POU's size, or why it has none, and the place of the variable.
func modelSize(p api.Project, u api.Pou) (int, api.Errno, int) {
	all := 0
	for _, v := range modelVars(u) {
		n, why := modelCount(p, v)
		if why != api.OK {
			return 0, why, v.At
		}
		all += n
	}
	if all > 4096 {
		return 0, api.ErrFull, 0
	}
	return all, api.OK, 0
}

// modelInit is an element's initial value.
func modelInit(v api.Var, k int) api.Value {
	if k < len(v.Init) {
		return v.Init[k]
	}
	if n := value.Zero(v.Type.Kind); !v.Type.Sub || value.Fits(v.Type, n) == 0 {
		return n
	}
	n, _ := value.Int(v.Type.Kind, v.Type.Lo)
	return n
}

// modelInstance is the cells of a POU's instance within variables of which one is kept, or none.
func modelInstance(p api.Project, u api.Pou, within bool) []api.Cell {
	var l []api.Cell
	for _, v := range modelVars(u) {
		keep := u.What != api.PouFunction && (within || v.Keep) && v.Class != api.VarTemp
		kind, standard := blocks.Kind(v.Type.Block)
		switch {
		case v.Class == api.VarExternal:
		case v.Class == api.VarInOut:
			l = append(l, api.Cell{Kind: api.KRef, Init: api.Value{Kind: api.KRef}})
		case standard:
			for i, x := range blocks.Vars(kind) {
				l = append(l, api.Cell{Kind: x.Type.Kind, Init: blocks.Start(kind)[i], Keep: keep})
			}
		case v.Type.Block != "":
			for _, c := range modelInstance(p, *modelPou(p, api.PouBlock, v.Type.Block), keep) {
				c.Keep = c.Keep && u.What != api.PouFunction
				l = append(l, c)
			}
		default:
			for k := range decl.Cells(v.Type) {
				l = append(l, api.Cell{Kind: v.Type.Kind, Sub: v.Type.Sub, Lo: v.Type.Lo, Hi: v.Type.Hi, Max: v.Type.Max, Init: modelInit(v, k), Keep: keep})
			}
		}
	}
	return l
}

// modelGlobal is the cells of a global variable.
func modelGlobal(v api.Var) []api.Cell {
	var l []api.Cell
	for k := range decl.Cells(v.Type) {
		c := api.Cell{Kind: v.Type.Kind, Sub: v.Type.Sub, Lo: v.Type.Lo, Hi: v.Type.Hi, Max: v.Type.Max, Init: modelInit(v, k), Keep: v.Keep, Addr: v.Addr}
		switch {
		case strings.HasPrefix(v.Addr, "%I"):
			c.Dir = 1
		case strings.HasPrefix(v.Addr, "%Q"):
			c.Dir = 2
		}
		l = append(l, c)
	}
	return l
}

func modelCells(p api.Project) ([]api.Cell, int, error) {
	for _, u := range p.Pous {
		_, why, at := modelSize(p, u)
		if why == api.ErrBlock {
			return nil, u.Source, api.Fault{At: at, Why: why}
		}
		if why != api.OK {
			return nil, u.Source, api.Fault{At: u.At, Why: why}
		}
	}
	for _, r := range p.Runs {
		if modelPou(p, api.PouProgram, r.Pou) == nil {
			return nil, p.Source, api.Fault{At: r.At, Why: api.ErrUnknown}
		}
	}
	var l []api.Cell
	for _, v := range p.Globals {
		l = append(l, modelGlobal(v)...)
	}
	for _, u := range p.Pous {
		if u.What == api.PouFunction {
			l = append(l, modelInstance(p, u, false)...)
		}
	}
	for _, r := range p.Runs {
		l = append(l, modelInstance(p, *modelPou(p, api.PouProgram, r.Pou), false)...)
	}
	if len(l) > 4096 {
		return nil, p.Source, api.Fault{Why: api.ErrFull}
	}
	return l, 0, nil
}

// modelBases is the first cells of frames and runs (-1: none).
func modelBases(p api.Project) (frames, runs []int) {
	at, ok := 0, true
	for _, v := range p.Globals {
		at += decl.Cells(v.Type)
	}
	for _, u := range p.Pous {
		n, why, _ := modelSize(p, u)
		if u.What != api.PouFunction {
			frames = append(frames, -1)
			continue
		}
		frames = append(frames, at)
		at += n
		ok = ok && why == api.OK
	}
	for i := range frames {
		if !ok {
			frames[i] = -1
		}
	}
	for _, r := range p.Runs {
		u := modelPou(p, api.PouProgram, r.Pou)
		n, why := 0, api.ErrArg
		if u != nil {
			n, why, _ = modelSize(p, *u)
		}
		ok = ok && why == api.OK
		runs = append(runs, -1)
		if ok {
			runs[len(runs)-1] = at
		}
		at += n
	}
	return frames, runs
}

func first(at int, is bool) int {
	if !is && at != 0 {
		return -2
	}
	if !is {
		return -1
	}
	return at
}

// asModel holds all calls of a project against the model; it tells whether there are cells.
func asModel(t *testing.T, p api.Project) bool {
	t.Helper()
	frames, runs := modelBases(p)
	for i, u := range p.Pous {
		if n, is := layout.Pou(p, u.Name); n != i || !is {
			t.Fatalf("%+v: %s %d %v", p, u.Name, n, is)
		}
		want, why, _ := modelSize(p, u)
		if n, e := layout.Size(p, i); n != want || e != why {
			t.Fatalf("%+v: Size of %s %d %v, not %d %v", p, u.Name, n, e, want, why)
		}
		if at := first(layout.Base(p, i)); at != frames[i] {
			t.Fatalf("%+v: Base of %s %d, not %d", p, u.Name, at, frames[i])
		}
		ahead := 0
		for _, v := range modelVars(u) {
			n, _ := modelCount(p, v)
			at, got, is := layout.Find(p, i, v.Name)
			switch {
			case why != api.OK:
				if at != 0 || is || !reflect.DeepEqual(got, api.Var{}) {
					t.Fatalf("%+v: %s %s", p, u.Name, v.Name)
				}
			case !is || !sameVar(got, v) || v.Class == api.VarExternal && at != 0 || v.Class != api.VarExternal && at != ahead:
				t.Fatalf("%+v: %s %s: %d %+v %v, not %d", p, u.Name, v.Name, at, got, is, ahead)
			}
			ahead += n
		}
	}
	for i := range p.Runs {
		if at := first(layout.Run(p, i)); at != runs[i] {
			t.Fatalf("%+v: Run %d %d, not %d", p, i, at, runs[i])
		}
	}
	ahead := 0
	for _, v := range p.Globals {
		if at, got, is := layout.Global(p, v.Name); at != ahead || !is || !sameVar(got, v) {
			t.Fatalf("%+v: %s %d %v %v", p, v.Name, at, got, is)
		}
		ahead += len(modelGlobal(v))
	}
	want, from, fault := modelCells(p)
	l, source, err := layout.Cells(p)
	if err != fault || source != from || len(l) != len(want) {
		t.Fatalf("%+v: %d %d %v, not %d %d %v", p, len(l), source, err, len(want), from, fault)
	}
	for i := range l {
		if l[i] != want[i] {
			t.Fatalf("%+v: cell %d: %+v, not %+v", p, i, l[i], want[i])
		}
	}
	return err == nil
}

func sameVar(a, b api.Var) bool {
	if len(a.Init) == 0 && len(b.Init) == 0 {
		a.Init, b.Init = nil, nil
	}
	return reflect.DeepEqual(a, b)
}

func TestByChance(t *testing.T) {
	good, faults := 0, map[api.Errno]int{}
	for seed := range int64(6000) {
		m := newMaker(seed)
		p := project(t, m.sources()...)
		if m.rarely(2) {
			p = m.hide(p)
		}
		if asModel(t, p) {
			good++
			continue
		}
		_, _, err := layout.Cells(p)
		var f api.Fault
		errors.As(err, &f)
		faults[f.Why]++
	}
	if good < 2000 || faults[api.ErrNest] < 100 || faults[api.ErrBlock] < 100 || faults[api.ErrUnknown] < 100 {
		t.Error(good, faults)
	}
}
