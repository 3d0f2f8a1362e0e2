package decl_test

import (
	"strconv"
	"strings"
	"testing"

	"relay/api"
	"relay/decl"
)

// many is n texts, in each of which @ is a number.
func many(n int, s string) string {
	var b strings.Builder
	for i := range n {
		b.WriteString(strings.ReplaceAll(s, "@", strconv.Itoa(i)))
	}
	return b.String()
}

// P4.1: as many of each as may be, and one more; ErrFull comes ahead of ErrTwice.
func TestLimits(t *testing.T) {
	const open = "CONFIGURATION c RESOURCE r ON p VAR_GLOBAL x : BOOL; END_VAR "
	const shut = " END_RESOURCE END_CONFIGURATION"
	for _, x := range []struct{ ahead, full, more, behind string }{
		{"TYPE ", many(64, "t@ : INT; "), "¦t0 : INT;", " END_TYPE"},
		{"TYPE ", many(64, "t@ : INT; "), "¦ton : INT;", " END_TYPE"},
		{"", many(64, "TYPE t@ : BOOL; END_TYPE "), "TYPE ¦u : (a); END_TYPE", ""},
		{"TYPE a : (", many(255, "c@, ") + "d", ", ¦d", "); END_TYPE"},
		{"TYPE ", many(64, "t@ : (a@, b@, c@, d@); "), "END_TYPE TYPE ¦u : (e);", " END_TYPE"},
		{"TYPE ", many(63, "t@ : (a@, b@, c@, d@); "), "u : (v, w, x, y, ¦z);", " END_TYPE"},
		{"", many(64, "PROGRAM p@ END_PROGRAM "), "FUNCTION ¦p0 : INT END_FUNCTION", ""},
		{"", many(64, "FUNCTION f@ : INT END_FUNCTION "), "FUNCTION_BLOCK ¦g END_FUNCTION_BLOCK", ""},
		{"PROGRAM p VAR ", many(64, "x@ : INT; "), "¦x0 : INT;", " END_VAR END_PROGRAM"},
		{"PROGRAM p VAR ", many(63, "x@, ") + "y", ", ¦y", " : INT; END_VAR END_PROGRAM"},
		{"FUNCTION f : INT VAR ", many(40, "x@ : INT; ") + "END_VAR VAR_INPUT " + many(24, "y@ : INT; "), "¦f : INT;", " END_VAR END_FUNCTION"},
		{"CONFIGURATION c VAR_GLOBAL ", many(40, "x@ : INT; ") + "END_VAR RESOURCE r ON p VAR_GLOBAL " + many(24, "y@ : INT; "), "¦z : INT;", "END_VAR" + shut},
		{open, many(16, "TASK t@ (INTERVAL := T#1s, PRIORITY := 1); "), "TASK ¦t0 (SINGLE := x, PRIORITY := 0);", shut},
		{open, many(32, "PROGRAM p@ : q; "), "PROGRAM ¦p0 WITH t : q;", shut},
	} {
		parsed(t, x.ahead+x.full+x.behind)
		fault(t, x.ahead+x.full+x.more+x.behind, api.ErrFull)
	}
}

// Each POU has its own variables; names as long as may be; sources as many as may be.
func TestMany(t *testing.T) {
	long := strings.Repeat("n", api.MaxName)
	p := parsed(t, "TYPE "+long+" : INT; END_TYPE PROGRAM p VAR "+long+" : "+long+"; END_VAR END_PROGRAM")
	if p.Types[0].Name != strings.ToUpper(long) || p.Pous[0].Vars[0].Type.Kind != api.KInt {
		t.Error(p)
	}
	fault(t, "TYPE ¦"+long+"n : INT; END_TYPE", api.ErrName)
	var sources []string
	for i := range api.MaxSources {
		sources = append(sources, many(4, "PROGRAM p"+strconv.Itoa(i)+"_@ VAR a, b : INT; END_VAR END_PROGRAM "))
	}
	p = parsed(t, sources...)
	if len(p.Pous) != api.MaxPous || p.Pous[63].Source != 15 || len(p.Pous[63].Vars) != 2 {
		t.Error(p)
	}
	all := many(api.MaxPous, "FUNCTION_BLOCK q@ VAR v"+many(api.MaxVars-1, ", v@")+" : INT; END_VAR END_FUNCTION_BLOCK ")
	if p := parsed(t, all); len(p.Pous) != api.MaxPous || len(p.Pous[63].Vars) != api.MaxVars {
		t.Error(len(p.Pous))
	}
	if _, n, err := decl.Parse(append(sources, "")); n != api.MaxSources || err != error(api.Fault{Why: api.ErrLong}) {
		t.Error(n, err)
	}
}
