package blocks_test

import (
	"strings"
	"testing"

	"relay/api"
	"relay/blocks"
	"relay/value"
)

// table is chapter 10's, a line a block: its name, then its inputs, outputs and inner variables, each kind ahead of the names that are of it.
var table = []string{
	"",
	"SR | BOOL S1 R | BOOL Q1 |",
	"RS | BOOL S R1 | BOOL Q1 |",
	"R_TRIG | BOOL CLK | BOOL Q | BOOL M",
	"F_TRIG | BOOL CLK | BOOL Q | BOOL M",
	"CTU | BOOL CU R INT PV | BOOL Q INT CV | BOOL M",
	"CTD | BOOL CD LD INT PV | BOOL Q INT CV | BOOL M",
	"CTUD | BOOL CU CD R LD INT PV | BOOL QU QD INT CV | BOOL M N",
	"TP | BOOL IN TIME PT | BOOL Q TIME ET | BOOL M TIME S",
	"TON | BOOL IN TIME PT | BOOL Q TIME ET | BOOL M TIME S",
	"TOF | BOOL IN TIME PT | BOOL Q TIME ET | BOOL M TIME S",
}

func allKinds() []int {
	return []int{api.FbSr, api.FbRs, api.FbRise, api.FbFall, api.FbCtu, api.FbCtd, api.FbCtud, api.FbTp, api.FbTon, api.FbTof}
}

// noKinds is numbers that no block has.
func noKinds() []int {
	return []int{0, -1, -2, 11, 12, 99, 255, 256 + 1, 1<<16 + 3, 1<<32 + 3, -1 << 63, 1<<63 - 1, -1<<63 + 1}
}

// nameOf and varsOf read the table; known is what varsOf has read so far.
func nameOf(kind int) string { return strings.Fields(table[kind])[0] }

var known = map[int][]api.Var{}

func varsOf(kind int) []api.Var {
	if known[kind] == nil {
		known[kind] = readVars(kind)
	}
	return known[kind]
}

func readVars(kind int) []api.Var {
	var l []api.Var
	parts := strings.Split(table[kind], "|")
	for i, class := range []int{api.VarIn, api.VarOut, api.VarLocal} {
		var k api.Kind
		for _, word := range strings.Fields(parts[i+1]) {
			if is, ok := value.Kind(word); ok {
				k = is
				continue
			}
			l = append(l, api.Var{Name: word, Class: class, Type: api.Type{Kind: k}})
		}
	}
	if kind == api.FbFall {
		l[2].Init = []api.Value{{Kind: api.KBool, Bits: 1}}
	}
	return l
}

// state is a block's variables by their names, as numbers.
type state map[string]int

// cellsOf lays a state down; stateOf reads cells.
func cellsOf(kind int, s state) []api.Value {
	var l []api.Value
	for _, v := range varsOf(kind) {
		l = append(l, api.Value{Kind: v.Type.Kind, Bits: uint64(s[v.Name])})
	}
	return l
}

func stateOf(kind int, cells []api.Value) state {
	s := state{}
	for i, v := range varsOf(kind) {
		s[v.Name] = int(cells[i].Bits)
	}
	return s
}

func (s state) is(name string) bool { return s[name] == 1 }

func (s state) set(name string, is bool) {
	s[name] = 0
	if is {
		s[name] = 1
	}
}

func (s state) rises(name, inner string) bool { return s.is(name) && !s.is(inner) }

func (s state) span() int {
	if s["PT"] > 0 {
		return s["PT"]
	}
	return 0
}

func (s state) since(now int) int {
	if 0 <= s["S"] && s["S"] <= now {
		return now - s["S"]
	}
	return 0
}

// step is section 10.2, sentence by sentence.
func (s state) step(kind, now int) {
	switch kind {
	case api.FbSr:
		s.set("Q1", s.is("S1") || s.is("Q1") && !s.is("R"))
	case api.FbRs:
		s.set("Q1", !s.is("R1") && (s.is("S") || s.is("Q1")))
	case api.FbRise:
		s.set("Q", s.is("CLK") && !s.is("M"))
		s["M"] = s["CLK"]
	case api.FbFall:
		s.set("Q", s.is("M") && !s.is("CLK"))
		s["M"] = s["CLK"]
	case api.FbCtu, api.FbCtd, api.FbCtud:
		s.count(kind)
	case api.FbTp:
		s.pulse(now)
	case api.FbTon, api.FbTof:
		s.delay(kind, now)
	}
}

func (s state) count(kind int) {
	switch {
	case kind == api.FbCtu && s.is("R"), kind == api.FbCtud && s.is("R"):
		s["CV"] = 0
	case kind == api.FbCtd && s.is("LD"), kind == api.FbCtud && s.is("LD"):
		s["CV"] = s["PV"]
	case kind == api.FbCtu && s.rises("CU", "M") && s["CV"] < 32767:
		s["CV"]++
	case kind == api.FbCtd && s.rises("CD", "M") && s["CV"] > -32768:
		s["CV"]--
	case kind == api.FbCtud && s.rises("CU", "M") && !s.rises("CD", "N") && s["CV"] < 32767:
		s["CV"]++
	case kind == api.FbCtud && s.rises("CD", "N") && !s.rises("CU", "M") && s["CV"] > -32768:
		s["CV"]--
	}
	switch kind {
	case api.FbCtu:
		s.set("Q", s["CV"] >= s["PV"])
		s["M"] = s["CU"]
	case api.FbCtd:
		s.set("Q", s["CV"] <= 0)
		s["M"] = s["CD"]
	default:
		s.set("QU", s["CV"] >= s["PV"])
		s.set("QD", s["CV"] <= 0)
		s["M"], s["N"] = s["CU"], s["CD"]
	}
}

func (s state) pulse(now int) {
	if s.is("Q") && s.since(now) >= s.span() {
		s["Q"], s["ET"] = 0, s.span()
	} else if s.is("Q") {
		s["ET"] = s.since(now)
	}
	if !s.is("Q") && s.rises("IN", "M") {
		s["S"], s["ET"] = now, 0
		s.set("Q", s.span() > 0)
	} else if !s.is("Q") && !s.is("IN") {
		s["ET"] = 0
	}
	s["M"] = s["IN"]
}

func (s state) delay(kind, now int) {
	on := kind == api.FbTon
	switch {
	case on && !s.is("IN"):
		s["Q"], s["ET"] = 0, 0
	case !on && s.is("IN"):
		s["Q"], s["ET"] = 1, 0
	default:
		if s["M"] != s["IN"] {
			s["S"] = now
		}
		switch over := s.since(now) >= s.span(); {
		case !on && !s.is("Q"):
		case over:
			s.set("Q", on)
			s["ET"] = s.span()
		default:
			s["ET"] = s.since(now)
			s.set("Q", !on)
		}
	}
	s["M"] = s["IN"]
}

// life is a block that is stepped.
type life struct {
	t     *testing.T
	kind  int
	cells []api.Value
}

func born(t *testing.T, kind int) *life { return &life{t, kind, blocks.Start(kind)} }

// step lays inputs, steps, and tells what the variables are then.
func (l *life) step(now int, inputs state) state {
	l.t.Helper()
	for i, v := range varsOf(l.kind) {
		if n, ok := inputs[v.Name]; ok {
			l.cells[i].Bits = uint64(n)
		}
	}
	after, fault := blocks.Step(l.kind, l.cells, now)
	if fault != 0 {
		l.t.Fatalf("%s, %v at %d: fault %d", nameOf(l.kind), l.cells, now, fault)
	}
	l.cells = after
	return stateOf(l.kind, after)
}
