package vm_test

import (
	"strconv"
	"testing"

	"relay/api"
)

// chain is so many codes of which each calls the next one, and the last one does what is told.
func chain(t *testing.T, n int, last string) []api.Flat {
	t.Helper()
	var l []api.Flat
	for i := range n - 1 {
		l = append(l, read(t, "call B"+strconv.Itoa(i+1)+" C1; return")...)
	}
	return append(l, read(t, last)...)
}

// A call goes on behind its IrCall when it has ended; the run ends with the first one.
func TestCalls(t *testing.T) {
	checkDid(t, 0,
		did{"call B1 C1; return\nreturn", "INT#0", "INT#0", 3, 0},
		did{"call B1 C1 D1; call B1 C1 D2; return\nload B1; const A1 INT#1; do C1 add; store B1; return", "INT#0 INT#5 INT#7", "INT#0 INT#6 INT#8", 13, 0},
		did{"call B1 C1; fault A3\nfault A2", "INT#0", "", 2, api.FaultZero},
		did{"call B1 C1; fault A3\nreturn", "INT#0", "", 3, api.FaultRange},
		did{"call B1 C1; return\njump B9", "INT#0", "", 2, api.FaultKind},
		did{"call B1 C1\nreturn", "INT#0", "", 2, api.FaultKind},
		did{"call B2 C1; return\nfault A1\nreturn", "INT#0", "INT#0", 3, 0})
	// From the base on, from the first cell on, and by a reference
	add := "\nload B1; const A1 INT#1; do C1 add; store B1; return"
	checkDid(t, 1,
		did{"call B1 C1 D1; return" + add, "INT#0 INT#0 INT#0 REF#0 REF#2", "INT#0 INT#0 INT#1 REF#0 REF#2", 7, 0},
		did{"call B1 C1 D-1; return" + add, "INT#0 INT#0 INT#0 REF#0 REF#2", "INT#1 INT#0 INT#0 REF#0 REF#2", 7, 0},
		did{"call B1 C2 D1; return" + add, "INT#0 INT#0 INT#0 REF#0 REF#2", "INT#0 INT#1 INT#0 REF#0 REF#2", 7, 0},
		did{"call B1 C3 D2; return" + add, "INT#0 INT#0 INT#0 REF#0 REF#2", "INT#1 INT#0 INT#0 REF#0 REF#2", 7, 0},
		did{"call B1 C3 D3; return" + add, "INT#0 INT#0 INT#0 REF#0 REF#2", "INT#0 INT#0 INT#1 REF#0 REF#2", 7, 0},
		// Bases add up.
		did{"call B1 C1 D1; return\ncall B2 C1 D1; return" + add, "BOOL#0 BOOL#0 BOOL#0 INT#4", "BOOL#0 BOOL#0 BOOL#0 INT#5", 9, 0})
}

// What each invocation has of its own: registers, slots and arguments begin with nothing, and stay while others run.
func TestInvocationsApart(t *testing.T) {
	checkDid(t, 0,
		did{"const INT#5; call B1 C1; store B1; return\nconst INT#6; return", "INT#0", "INT#5", 6, 0},
		did{"const INT#5; spill; call B1 C1; fill; store B1; return\nconst INT#6; spill; return", "INT#0", "INT#5", 9, 0},
		did{"const INT#5; arg; call B1 C1; std C1 D16; store B1; return\nconst INT#6; arg; return", "INT#0", "INT#5", 9, 0},
		did{"const INT#5; call B1 C1; return\nstore B1; return", "INT#0", "", 3, api.FaultKind},
		did{"const INT#5; spill; call B1 C1; return\nfill; store B1; return", "INT#0", "", 5, api.FaultKind},
		did{"const INT#5; arg; call B1 C1; return\nstd C1 D16; return", "INT#0", "", 4, api.FaultKind},
		// One behind another
		did{"call B1 C1; call B2 C1; return\nconst INT#5; return\nstore B1; return", "INT#0", "", 5, api.FaultKind},
		did{"call B1 C1; call B2 C1; return\nconst INT#5; spill; return\nfill; store B1; return", "INT#0", "", 7, api.FaultKind},
		did{"call B1 C1; call B2 C1; return\nconst INT#5; arg; return\nstd C1 D16; return", "INT#0", "", 6, api.FaultKind},
		// The same one again
		did{"call B1 C1; call B1 C1; return\nload B1; unless B4; store A1 B1; return; const BOOL#1; store B1; const A1 BOOL#1; return", "BOOL#0", "", 11, api.FaultKind})
}

// MaxCalls invocations lie within one another, and no more. What is called is asked ahead of that, and its cell behind it.
func TestDepth(t *testing.T) {
	full := api.MaxCalls
	if got := run(chain(t, full, "return"), 0, values(t, "INT#0"), enough); !got.same(outcome{values(t, "INT#0"), 2*full - 1, 0}) {
		t.Error(got)
	}
	for last, fault := range map[string]int{"call C1; return": api.FaultSteps, "call C1 D9; return": api.FaultSteps, "call; return": api.FaultSteps, "call B16 C1; return": api.FaultKind, "call B-1 C1 D9; return": api.FaultKind} {
		if got := run(chain(t, full, last), 0, values(t, "INT#0"), enough); !got.same(outcome{nil, full, fault}) {
			t.Error(last, got)
		}
	}
	if got := run(chain(t, full+1, "return"), 0, values(t, "INT#0"), enough); !got.same(outcome{nil, full, api.FaultSteps}) {
		t.Error(got)
	}
	if got := run(read(t, "call C1; return"), 0, values(t, "INT#0"), enough); !got.same(outcome{nil, full, api.FaultSteps}) {
		t.Error(got)
	}
	// One behind another they are as many as there are steps.
	if got := run(read(t, "call B1 C1; jump", "return"), 0, values(t, "INT#0"), 30000); !got.same(outcome{nil, 30000, api.FaultSteps}) {
		t.Error(got)
	}
}

// What is called must be there, and so must its first cell; a code without Cells may begin at the end.
func TestCallsOfNothing(t *testing.T) {
	stops(t, 0, "INT#0", api.FaultKind, "call B1 C1", "call B-1 C1", "call B"+greatest+" C1", "call B"+least+" C1", "call B1 C1 D9")
	stops(t, 1, "INT#0 INT#1 REF#3 REF#18446744073709551615", api.FaultRef, "call C1 D3", "call C1 D-2", "call C2 D4", "call C2 D-1", "call C3", "call C3 D2", "call C3 D3", "call", "call C4", "call C1 D"+greatest, "call C2 D"+least)
	for _, x := range []struct {
		op    string
		cells int
		fault int
	}{
		{"call B1 C1 D2", 0, 0}, {"call B1 C1 D2", -1, 0}, {"call B1 C1 D2", 1, api.FaultRef}, {"call B1 C1 D2", 4096, api.FaultRef}, {"call B1 C1 D3", 0, api.FaultRef}, {"call B1 C1 D-2", 0, api.FaultRef}, {"call B1 C1 D-1", 0, 0}, {"call B1 C1 D1", 1, 0}, {"call B1 C1 D1", 4096, 0},
		{"call B1 C2 D3", 0, 0}, {"call B1 C2 D3", 1, api.FaultRef}, {"call B1 C2 D4", 0, api.FaultRef}, {"call B1 C2 D-1", 0, api.FaultRef}, {"call B1 C2", 1, 0},
		{"call B1 C3 D1", 0, 0}, {"call B1 C3 D1", 1, api.FaultRef}, {"call B1 C3 D-1", 0, api.FaultRef}, {"call B1 C3", 0, api.FaultRef}, {"call B1 C3 D2", 0, api.FaultRef},
	} {
		codes := read(t, x.op+"; return", "return")
		codes[1].Cells = x.cells
		mem := values(t, "REF#4 INT#1 REF#3")
		want := outcome{mem, 3, 0}
		if x.fault != 0 {
			want = outcome{nil, 1, x.fault}
		}
		if got := run(codes, 1, mem, enough); !got.same(want) {
			t.Error(x, got)
		}
	}
	// A base at the end lies at the end of those that are called, too.
	codes := read(t, "call B1 C1; return", "call B2 C1; return", "load B1 C-1; store B2; return")
	for i := range codes {
		codes[i].Cells = 0
	}
	if got := run(codes, 2, values(t, "INT#0 INT#5"), enough); !got.same(outcome{values(t, "INT#5 INT#5"), 7, 0}) {
		t.Error(got)
	}
}

// Codes with more registers than others, one behind another at one depth.
func TestRegistersOfDepths(t *testing.T) {
	codes := read(t, "call B1 C1; call B2 C1; call B1 C1; call B2 C1; return", "const A65535 INT#5; store A65535 B1; return", "const A1 INT#6; store A1 B1; store B1; return")
	codes[1].Regs, codes[2].Regs = 1<<16, 2
	if got := run(codes, 0, values(t, "INT#0"), enough); !got.same(outcome{nil, 8, api.FaultKind}) {
		t.Error(got)
	}
	codes[2] = read(t, "const A1 INT#6; store A1 B1; return")[0]
	codes[2].Regs = 2
	if got := run(codes, 0, values(t, "INT#0"), enough); !got.same(outcome{values(t, "INT#6"), 17, 0}) {
		t.Error(got)
	}
	codes[2] = read(t, "move A1 B2; return")[0]
	codes[2].Regs = 2
	if got := run(codes, 0, values(t, "INT#0"), enough); !got.same(outcome{nil, 6, api.FaultKind}) {
		t.Error(got)
	}
}
