package vm_test

import (
	"slices"
	"strconv"
	"strings"
	"testing"

	"relay/api"
	"relay/blocks"
	"relay/ir"
	"relay/listing"
	"relay/value"
	"relay/vm"
)

// The chapter's example.
func TestExample(t *testing.T) {
	code := "load B1 C3; const A1 INT#1; do A2 C1 add; store A2 B1 C3; return"
	checkDid(t, 0,
		did{code, "FALSE FALSE FALSE INT#32767", "", 3, api.FaultOver},
		did{code, "FALSE FALSE FALSE INT#4", "FALSE FALSE FALSE INT#5", 5, 0})
}

// Constants and moves: a register has nothing at first, and whatever it is given.
func TestRegisters(t *testing.T) {
	runs(t, 0, "INT#0", "INT#7", "const INT#7; store B1", "const A7 INT#7; store A7 B1", "const A1 INT#7; move A2 B1; store A2 B1", "const A1 INT#7; move A1 B1; const A2 INT#8; store A1 B1")
	runs(t, 0, "REF#0", "REF#18446744073709551615", "const REF#18446744073709551615; store B1", "const REF#18446744073709551615; move A1; store A1 B1")
	runs(t, 0, "INT#0", "INT#0", "const", "const STRING#1", "const BOOL#2; move A1")
	stops(t, 0, "INT#0", api.FaultKind, "store B1", "move A1; store A1 B1", "const; store B1", "const INT#7; move B1; store B1")
}

// named is the fields of an instruction that are registers, as ir tells them.
func named(code int) string {
	fields := ""
	o := api.Op{Code: code, A: 1, B: 2, C: 3, D: 4}
	for i, letter := range []string{"A", "B", "C", "D"} {
		if slices.Contains(ir.Uses(o), i+1) || ir.Gives(o) == i+1 {
			fields += letter
		}
	}
	return fields
}

func setField(o *api.Op, letter byte, n int) {
	switch letter {
	case 'A':
		o.A = n
	case 'B':
		o.B = n
	case 'C':
		o.C = n
	case 'D':
		o.D = n
	}
}

// Registers and slots beyond the last one come ahead of all other faults; so does another Code. The step is counted.
func TestBeyondRegisters(t *testing.T) {
	far := []int{-1, -1 << 63, testRegs, testRegs + 1, 1 << 40, 1<<63 - 1}
	look := func(o api.Op) {
		codes := read(t, "return")
		codes[0].Ops = []api.Op{o}
		if got := run(codes, 0, nil, enough); !got.same(outcome{nil, 1, api.FaultKind}) {
			t.Error(listing.Text(codes[0]), got)
		}
	}
	found := 0
	for code := api.IrConst; code < api.NumIr; code++ {
		for _, letter := range []byte(named(code)) {
			for _, n := range far {
				// There is no cell, no argument and no place, which would be other faults.
				o := api.Op{Code: code, B: 1, C: 1, D: 3, Lo: 1, Hi: 0}
				setField(&o, letter, n)
				look(o)
			}
			found++
		}
	}
	if found != 26 {
		t.Error(found)
	}
	for _, n := range []int{-1, -1 << 63, testSlots, 1 << 40} {
		look(api.Op{Code: api.IrSpill, B: n})
		look(api.Op{Code: api.IrFill, B: n})
	}
	for _, code := range []int{0, -1, -1 << 63, api.NumIr, 99, 1<<63 - 1} {
		look(api.Op{Code: code})
	}
	none := read(t, "const INT#1; return")
	none[0].Regs = 0
	if got := run(none, 0, nil, enough); !got.same(outcome{nil, 1, api.FaultKind}) {
		t.Error(got)
	}
	none = read(t, "spill; return")
	none[0].Slots = 0
	if got := run(none, 0, nil, enough); !got.same(outcome{nil, 1, api.FaultKind}) {
		t.Error(got)
	}
	// All else is well.
	stops(t, 0, "INT#0", api.FaultKind,
		"const A8 INT#1", "const INT#1; move A8", "move B8", "load A8 B1", "const INT#1; store A8 B1", "const INT#0; loadx A8 B1", "const INT#0; storex A8 B1", "ref A8 B1", "const INT#0; refx A8 B1",
		"const INT#1; do A8 add", "const INT#1; do A1 B8 add", "const INT#1; do A1 C8 add", "const INT#1; turn A8 neg", "const INT#1; conv A8 DINT", "arg A8", "const INT#1; arg; std A8 C1 D16", "check A8", "text A8", "unless A8 B1", "spill A8", "spill; fill A8")
	// Beside what is no register stand faults that would be told else.
	stops(t, 0, "INT#0", api.FaultKind, "load A8 B1 C5", "store A8 B1 C5", "loadx A8 B1 D1", "const A1 INT#9; loadx A8 B1 D1", "const A1 INT#9; storex A-1 B1 D1", "const A1 INT#9; refx A8 B1 D1", "ref A8 B2 C9", "const A1 INT#0; do A8 B1 C1 div")
}

// The last register and the last slot of all that may be.
func TestLastRegister(t *testing.T) {
	codes := read(t, "const A65535 INT#5; spill A65535 B1023; fill A65534 B1023; store A65534 B1; return")
	codes[0].Regs, codes[0].Slots = 1<<16, api.MaxSlots
	if got := run(codes, 0, values(t, "INT#0"), enough); !got.same(outcome{values(t, "INT#5"), 5, 0}) {
		t.Error(got)
	}
}

// Slots keep what they are given.
func TestSlots(t *testing.T) {
	runs(t, 0, "INT#0 INT#0", "INT#5 INT#6",
		"const INT#5; spill; const INT#6; spill B3; fill A1; store A1 B1; fill A2 B3; store A2 B1 C1",
		"const INT#5; spill B2; const INT#6; spill B1; const INT#7; fill B2; store B1; fill B1; store B1 C1")
	stops(t, 0, "INT#0", api.FaultKind, "fill; store B1", "const INT#5; spill B1; fill; store B1", "const INT#5; spill; spill A1; fill; store B1")
}

const least, greatest = "-9223372036854775808", "9223372036854775807"

// Cells of each area at both ends, and one beyond.
func TestCells(t *testing.T) {
	for _, l := range []string{"load A1 ", "ref A1 "} {
		runs(t, 1, "INT#0 INT#1 INT#2", "INT#0 INT#1 INT#2", l+"B1 C-1", l+"B1", l+"B1 C1", l+"B2", l+"B2 C2")
		stops(t, 1, "INT#0 INT#1 INT#2", api.FaultRef, l+"B1 C-2", l+"B1 C2", l+"B2 C-1", l+"B2 C3", l+"B1 C"+least, l+"B1 C"+greatest, l+"B2 C"+least, l+"B2 C"+greatest)
		// What a cell keeps that is no reference, one beyond the end, and no area.
		stops(t, 1, "INT#0 INT#1 INT#2", api.FaultRef, l+"B3 C-1", l+"B3", l+"B3 C1", l+"B3 C-2", l+"B3 C2", l+"B3 C"+greatest, l+"C1", l+"B4 C1", l+"B-1 C1")
		runs(t, 1, "REF#0 REF#3 REF#1 REF#2", "REF#0 REF#3 REF#1 REF#2", l+"B3 C-1", l+"B3", l+"B3 C1", l+"B3 C2")
		stops(t, 1, "REF#4 REF#18446744073709551615 REF#9223372036854775808", api.FaultRef, l+"B3 C-1", l+"B3", l+"B3 C1", l+"B3 C2", l+"B3 C-2")
	}
	// Which cell it is.
	runs(t, 1, "INT#5 INT#6 INT#7 REF#0 REF#2", "INT#5 INT#5 INT#7 REF#0 REF#2", "load B1 C-1; store B1", "load B2; store B2 C1", "load B3 C2; store B1")
	runs(t, 1, "INT#5 INT#6 INT#7 REF#0 REF#2", "INT#5 INT#6 INT#6 REF#0 REF#2", "load B1; store B1 C1", "load B2 C1; store B2 C2", "load B1; store B3 C3")
	runs(t, 1, "INT#5 INT#6 INT#7 REF#0 REF#2", "INT#7 INT#6 INT#7 REF#0 REF#2", "load B1 C1; store B1 C-1", "load B3 C3; store B3 C2")
	runs(t, 1, "REF#0 INT#0 REF#3 REF#9", "REF#3 INT#0 REF#3 REF#9", "load B1 C1; store B2", "ref B3 C1; store B1 C-1", "ref B1 C2; store B1 C-1", "ref B2 C3; store B2")
	// At the end of the cells nothing lies from the base on.
	stops(t, 3, "INT#0 INT#1 INT#2", api.FaultRef, "load B1", "ref B1", "load B3", "load B1 C-4")
	runs(t, 3, "INT#0 INT#1 INT#2", "INT#0 INT#1 INT#0", "load B1 C-3; store B1 C-1", "load B2; store B2 C2")
}

// What is stored must be of the cell's kind, and may be. The cell plays its part first.
func TestStores(t *testing.T) {
	all := "BOOL#0 SINT#0 INT#0 DINT#0 LINT#0 USINT#0 UINT#0 UDINT#0 ULINT#0 BYTE#0 WORD#0 DWORD#0 LWORD#0 TIME#0 DATE#0 TOD#0 DT#0 LREAL#0 STRING' REF#0"
	mem := values(t, all)
	for i, v := range mem {
		for j := range mem {
			codes := read(t, "const; store B1; return")
			codes[0].Ops[0].Value, codes[0].Ops[1].C = v, j
			want := outcome{mem, 3, 0}
			if i != j {
				want = outcome{nil, 2, api.FaultKind}
			}
			if got := run(codes, 0, mem, enough); !got.same(want) {
				t.Error(v.Kind, j, got)
			}
		}
	}
	stops(t, 0, "INT#1", api.FaultKind, "const INT#32768; store B1", "const INT#-32769; store B1", "const INT'a; store B1", "const BOOL#1; store B1")
	stops(t, 0, "BOOL#1", api.FaultKind, "const BOOL#2; store B1")
	stops(t, 0, "LREAL#1", api.FaultKind, "const LREAL#18446744073709551615; store B1")
	stops(t, 0, "STRING'", api.FaultKind, "const STRING#1; store B1", "const STRING'"+strings.Repeat("x", 255)+"; store B1")
	runs(t, 0, "STRING'", "STRING'"+strings.Repeat("x", 254), "const STRING'"+strings.Repeat("x", 254)+"; store B1")
	runs(t, 0, "REF#0", "REF#18446744073709551615", "const REF#18446744073709551615; store B1", "const REF#18446744073709551615; const A1 INT#5; storex B1 D1 L5 H5")
	stops(t, 0, "INT#1", api.FaultRef, "const BOOL#1; store B1 C1", "const INT#1; store B1 C1", "const INT#1; store B3", "const INT#1; store B2 C-1", "const INT#1; store C1", "const INT#40000; store B2 C-1")
	// A cell's own bounds are not asked here.
	cells := []api.Cell{{Kind: api.KInt, Sub: true, Lo: 0, Hi: 9, Dir: 1, Addr: "%IW0"}, {Kind: api.KString, Max: 1}}
	codes := read(t, "const INT#10; store B1; const STRING'abc; store B1 C1; return")
	after, steps, fault := vm.Run(codes, 0, 0, 0, cells, values(t, "INT#0 STRING'"), enough)
	if fault != 0 || steps != 5 || !slices.Equal(after, values(t, "INT#10 STRING'abc")) {
		t.Error(after, steps, fault)
	}
}

// Elements: from Lo to Hi, and no further than the cells.
func TestElements(t *testing.T) {
	five := "INT#10 INT#11 INT#12 INT#13 INT#14"
	with := func(index, what string) string { return "const A1 " + index + "; const A2 INT#99; " + what }
	for i, n := range []string{"INT#3", "SINT#4", "DINT#5", "UINT#6", "ULINT#7"} {
		want := values(t, five)
		want[i].Bits = 99
		for _, x := range []string{"storex A2 B1 C-1 D1 L3 H7", "storex A2 B2 D1 L3 H7", "storex A2 B1 C-1 D1 L3 H" + greatest} {
			codes := read(t, with(n, x)+"; return")
			if got := run(codes, 1, values(t, five), enough); !got.same(outcome{want, 4, 0}) {
				t.Error(n, x, got)
			}
		}
		codes := read(t, "const A1 "+n+"; loadx A2 B2 D1 L3 H7; store A2 B2; return")
		want = values(t, five)
		want[0].Bits = uint64(10 + i)
		if got := run(codes, 1, values(t, five), enough); !got.same(outcome{want, 4, 0}) {
			t.Error(n, got)
		}
		codes = read(t, "const A1 "+n+"; refx A2 B2 D1 L3 H7; store A2 B2 C5; return")
		if got := run(codes, 1, values(t, five+" REF#9"), enough); !got.same(outcome{values(t, five+" REF#"+strconv.Itoa(i)), 4, 0}) {
			t.Error(n, got)
		}
	}
	for _, x := range []string{"loadx A2", "storex A2", "refx A2"} {
		at := func(rest string) string { return x + " " + rest }
		stops(t, 0, five, api.FaultIndex,
			with("INT#2", at("B1 D1 L3 H7")), with("INT#8", at("B1 D1 L3 H7")), with("INT#-1", at("B1 D1 H4")), with("INT#5", at("B1 D1 H4")), with("INT#5", at("B1 D1 L5 H4")),
			with("ULINT#9223372036854775808", at("B1 D1 H"+greatest)), with("ULINT#18446744073709551615", at("B1 D1 L"+least+" H"+greatest)), with("ULINT#18446744073709551615", at("B1 D1 L-1 H4")),
			with("LINT#"+least, at("B1 D1 L-9223372036854775807 H0")), with("LINT#"+greatest, at("B1 D1 H9223372036854775806")),
			// Ahead of what there is no cell for
			with("INT#8", at("B1 C9 D1 L3 H7")), with("INT#8", at("B3 D1 L3 H7")), with("INT#8", at("D1 L3 H7")))
		stops(t, 0, five, api.FaultKind,
			with("BOOL#1", at("B1 D1 H4")), with("BYTE#1", at("B1 D1 H4")), with("TIME#1", at("B1 D1 H4")), with("LREAL#0", at("B1 D1 H4")), with("STRING'1", at("B1 D1 H4")), with("REF#1", at("B1 D1 H4")), with("INT#40000", at("B1 D1 H4")), at("B1 D1 H4"),
			// Ahead of the index and of the cell
			with("BYTE#9", at("B1 D1 H4")), with("BYTE#1", at("B1 C9 D1 H4")))
		stops(t, 0, five, api.FaultRef,
			with("INT#5", at("B1 D1 H9")), with("INT#4", at("B1 C1 D1 H9")), with("INT#0", at("B1 C5 D1 H9")), with("INT#0", at("B2 C-1 D1 H9")), with("INT#0", at("B3 D1 H9")), with("INT#0", at("D1 H9")), with("INT#0", at("B4 D1 H9")),
			with("LINT#"+greatest, at("B1 D1 L"+least+" H"+greatest)), with("LINT#0", at("B1 D1 L"+least+" H"+greatest)), with("LINT#-1", at("B1 C4 D1 L"+least+" H0")), with("LINT#"+greatest, at("B1 C1 D1 H"+greatest)))
	}
	// A value of another kind comes last.
	bad := func(index, what string) string { return "const A1 " + index + "; const A2 BOOL#1; " + what }
	stops(t, 0, five, api.FaultIndex, bad("INT#8", "storex A2 B1 D1 L3 H7"))
	stops(t, 0, five, api.FaultRef, bad("INT#7", "storex A2 B1 C1 D1 L3 H7"))
	stops(t, 0, five, api.FaultKind, bad("INT#7", "storex A2 B1 D1 L3 H7"), "const A1 INT#4; storex A2 B1 D1 L3 H7", "const A1 INT#4; const A2 INT#40000; storex A2 B1 D1 L3 H7")
	// An index that is stored, or becomes what is loaded.
	runs(t, 0, "INT#5 INT#6", "INT#5 INT#1", "const INT#1; storex B1 H1", "const INT#1; storex B2 C1 L1 H1")
	runs(t, 0, "INT#5 INT#6", "INT#6 INT#6", "const INT#1; loadx B1 H1; store B1")
}

// Elements behind the cell that is referred to.
func TestElementsOfReferences(t *testing.T) {
	runs(t, 1, "INT#5 REF#2 INT#6 INT#7 INT#8", "INT#8 REF#2 INT#6 INT#7 INT#8", "const A1 INT#3; loadx A2 B3 D1 L1 H3; store A2 B2")
	runs(t, 1, "INT#5 REF#2 INT#6 INT#7 INT#8", "INT#5 REF#2 INT#6 INT#7 INT#3", "const A1 INT#3; storex A1 B3 D1 L1 H3")
	runs(t, 1, "INT#5 REF#2 INT#6 INT#7 INT#8", "INT#5 REF#3 INT#6 INT#7 INT#8", "const A1 INT#2; refx A2 B3 D1 L1 H3; store A2 B1")
	stops(t, 1, "INT#5 REF#2 INT#6 INT#7 INT#8", api.FaultRef, "const A1 INT#4; loadx A2 B3 D1 L1 H4", "const A1 INT#1; loadx A2 B3 C1 D1 L1 H4", "const A1 INT#1; loadx A2 B3 C4 D1 L1 H4")
	stops(t, 0, "REF#18446744073709551615 INT#6", api.FaultRef, "const A1 INT#1; loadx A2 B3 D1 H3", "const A1 INT#2; loadx A2 B3 D1 H3", "const A1 INT#0; loadx A2 B3 D1 H3")
	stops(t, 0, "REF#18446744073709551615 INT#6", api.FaultIndex, "const A1 INT#4; loadx A2 B3 D1 H3")
}

// Operations, with their faults.
func TestOperations(t *testing.T) {
	two := func(a, b string) string { return "const A1 " + a + "; const A2 " + b + "; " }
	runs(t, 0, "INT#0", "INT#-3", two("INT#-7", "INT#2")+"do A3 B1 C2 div; store A3 B1", two("INT#-7", "INT#2")+"do A1 B1 C2 div; store A1 B1", two("INT#-1", "INT#2")+"do A2 B1 C2 sub; store A2 B1", two("INT#3", "INT#0")+"turn A2 B1 neg; store A2 B1", "const INT#3; turn neg; store B1", "const A1 DINT#-3; conv A1 B1 INT; store A1 B1")
	runs(t, 0, "BOOL#0", "BOOL#1", two("INT#-7", "INT#2")+"do A3 B1 C2 lt; store A3 B1", "const BOOL#0; turn not; store B1", "const STRING'TRUE; conv BOOL; store B1", "const REF#0; const REF#1; const TIME#5; do eq; store B1")
	stops(t, 0, "INT#0", api.FaultOver, two("INT#32767", "INT#1")+"do A3 B1 C2 add", "const SINT#-128; turn A1 neg")
	stops(t, 0, "INT#0", api.FaultZero, two("INT#1", "INT#0")+"do A3 B1 C2 div", two("INT#1", "INT#0")+"do A3 B1 C2 mod")
	stops(t, 0, "INT#0", api.FaultConvert, "const INT#-1; conv A1 WORD", "const STRING'x; conv A1 INT")
	stops(t, 0, "INT#0", api.FaultKind,
		two("INT#1", "DINT#1")+"do A3 B1 C2 add", two("INT#1", "INT#40000")+"do A3 B1 C2 add", two("REF#1", "REF#1")+"do A3 B1 C2 eq", "const INT#1; do A3 C2 add", "do add", two("INT#1", "INT#1")+"do A3 B1 C2 D15", two("INT#1", "INT#1")+"do A3 B1 C2", two("INT#1", "INT#1")+"do A3 B1 C2 D-1", two("INT#1", "INT#1")+"do A3 B1 C2 D17", two("INT#1", "INT#1")+"do A3 B1 C2 D"+greatest,
		"turn neg", "const UINT#1; turn neg", "const INT#1; turn not", "const INT#1; turn", "const INT#1; turn D1", "const BOOL#2; turn not",
		"conv INT", "const INT#1; conv", "const INT#1; conv D20", "const INT#1; conv D21", "const INT#1; conv D-1", "const INT#1; conv D259", "const INT#1; conv D-253", "const INT#40000; conv INT", "const REF#1; conv INT", "const TIME#1; conv INT")
}

// Arguments: MaxArgs at most; a function takes the last ones.
func TestFunctions(t *testing.T) {
	args := func(n int) string { return strings.Repeat("arg A1; ", n) }
	runs(t, 0, "INT#0", "INT#16", "const A1 INT#1; "+args(16)+"std A2 C16 D1; store A2 B1", "const A1 INT#1; "+args(16)+"std A2 C16 D1; "+args(16)+"std A2 C16 D1; store A2 B1", "const A1 INT#1; "+args(16)+"std A2 C3 D1; arg A2; std A2 C14 D1; store A2 B1")
	// SUB of 9 and 5, behind 2; then of 2 and that
	runs(t, 0, "INT#0", "INT#-2", "const A1 INT#2; arg A1; const A1 INT#9; arg A1; const A1 INT#5; arg A1; std A1 C2 D2; arg A1; std A1 C2 D2; store A1 B1")
	runs(t, 0, "INT#0", "INT#0", "const A1 INT#1; "+args(15)+"arg A1", "arg A1")
	stops(t, 0, "INT#0", api.FaultKind,
		"const A1 INT#1; "+args(16)+"arg A1", "std C1 D16", "const A1 INT#1; arg A1; std A2 C2 D1", "const A1 INT#1; arg A1; arg A1; std A2 C2 D1; std A2 C1 D16", "const A1 INT#1; arg A1; std A2 C-1 D16", "const A1 INT#1; arg A1; std A2 C"+least+" D16", "const A1 INT#1; arg A1; std A2 C"+greatest+" D16",
		"std D1", "const A1 INT#1; arg A1; std A2 D16", "const A1 INT#1; arg A1; std A2 C1", "const A1 INT#1; arg A1; std A2 C1 D-1", "const A1 INT#1; arg A1; std A2 C1 D37", "const A1 INT#1; arg A1; std A2 C1 D84", "const A1 INT#1; arg A1; std A2 C1 D"+greatest,
		"const A1 INT#1; arg A1; std A2 C1 D1", "arg A1; std A2 C1 D16", "const A1 REF#1; arg A1; std A2 C1 D16", "const A1 INT#40000; arg A1; std A2 C1 D16")
	stops(t, 0, "INT#0", api.FaultOver, "const A1 SINT#-128; arg A1; std A2 C1 D17", "const A1 INT#32767; arg A1; arg A1; std A2 C2 D1")
	stops(t, 0, "INT#0", api.FaultZero, "const A1 INT#0; arg A1; arg A1; std A2 C2 D4")
	stops(t, 0, "INT#0", api.FaultRange, "const A1 INT#2; arg A1; arg A1; arg A1; std A2 C3 D22")
	stops(t, 0, "INT#0", api.FaultText, "const A1 STRING'"+strings.Repeat("x", 128)+"; arg A1; arg A1; std A2 C2 D31")
	stops(t, 0, "INT#0", api.FaultConvert, "const A1 STRING'x; arg A1; std A2 C1 D67")
}

// Checks of numbers and texts.
func TestChecks(t *testing.T) {
	one := func(v, check string) string { return "const " + v + "; " + check }
	runs(t, 0, "INT#0", "INT#0", one("INT#3", "check L3 H5"), one("INT#5", "check L3 H5"), one("ULINT#9223372036854775807", "check H"+greatest), one("LINT#"+least, "check L"+least), one("SINT#-1", "check L-1 H-1"), one("UDINT#0", "check"),
		one("STRING'", "text"), one("STRING'abc", "text H3"), one("STRING'"+strings.Repeat("x", 254), "text H254"), one("STRING'abc", "text L9 H4"))
	stops(t, 0, "INT#0", api.FaultRange, one("INT#2", "check L3 H5"), one("INT#6", "check L3 H5"), one("INT#4", "check L5 H3"), one("ULINT#9223372036854775808", "check H"+greatest), one("ULINT#18446744073709551615", "check L"+least+" H"+greatest), one("LINT#"+least, "check L-9223372036854775807 H9"))
	stops(t, 0, "INT#0", api.FaultText, one("STRING'abcd", "text H3"), one("STRING'a", "text"), one("STRING'", "text H-1"), one("STRING'", "text H"+least))
	for _, v := range []string{"BOOL#1", "BYTE#1", "LWORD#1", "TIME#1", "DATE#0", "TOD#1", "DT#1", "LREAL#0", "REF#1"} {
		stops(t, 0, "INT#0", api.FaultKind, one(v, "check L0 H5"), one(v, "check L5 H0"), one(v, "text H9"), one(v, "text H-1"))
	}
	stops(t, 0, "INT#0", api.FaultKind, "check H9", "text H9", one("STRING'1", "check H5"), one("INT#1", "text H5"), one("INT#40000", "check H65535"), one("INT#40000", "check H9"), one("USINT#256", "check H999"), one("STRING'"+strings.Repeat("x", 255), "text H300"), one("STRING'"+strings.Repeat("x", 255), "text H3"), one("STRING#1", "text H3"))
}

// Jumps: a place that is none of the code's stops the run there, and is not counted.
func TestJumps(t *testing.T) {
	checkDid(t, 0,
		did{"jump B2; fault A1; return", "INT#0", "INT#0", 2, 0},
		did{"const BOOL#1; unless B3; return; fault A1", "INT#0", "INT#0", 3, 0},
		did{"const BOOL#0; unless B3; fault A1; return", "INT#0", "INT#0", 3, 0},
		did{"jump B2; return; jump B1", "INT#0", "INT#0", 3, 0},
		did{"jump B-1", "INT#0", "", 1, api.FaultKind}, did{"jump B1", "INT#0", "", 1, api.FaultKind}, did{"jump B" + greatest, "INT#0", "", 1, api.FaultKind}, did{"jump B" + least, "INT#0", "", 1, api.FaultKind},
		did{"const BOOL#0; unless B-1; return", "INT#0", "", 2, api.FaultKind}, did{"const BOOL#0; unless B3; return", "INT#0", "", 2, api.FaultKind}, did{"const BOOL#1; unless B-1; return", "INT#0", "INT#0", 3, 0},
		did{"const INT#1", "INT#0", "", 1, api.FaultKind}, did{"const INT#1; store B1", "INT#0", "", 2, api.FaultKind})
	stops(t, 0, "INT#0", api.FaultKind, "unless B5", "const INT#1; unless", "const BOOL#2; unless", "const BOOL'a; unless", "const BYTE#0; unless", "const REF#0; unless B9")
	// Round and round, for as many steps as there are
	for most := range 9 {
		if got := run(read(t, "jump"), 0, nil, most); !got.same(outcome{nil, most, api.FaultSteps}) {
			t.Error(got)
		}
	}
	// Steps are asked ahead of the place.
	for most, want := range []outcome{{nil, 0, api.FaultSteps}, {nil, 1, api.FaultSteps}, {nil, 1, api.FaultKind}} {
		if got := run(read(t, "jump B9"), 0, nil, most); !got.same(want) {
			t.Error(most, got)
		}
	}
	empty := []api.Flat{{}}
	if got := run(empty, 0, nil, 0); !got.same(outcome{nil, 0, api.FaultSteps}) {
		t.Error(got)
	}
	if got := run(empty, 0, nil, 1); !got.same(outcome{nil, 0, api.FaultKind}) {
		t.Error(got)
	}
}

// Faults by themselves.
func TestFaults(t *testing.T) {
	for fault := api.FaultOver; fault <= api.FaultSteps; fault++ {
		stops(t, 0, "INT#0", fault, "fault A"+strconv.Itoa(fault), "const INT#1; store B1; fault A"+strconv.Itoa(fault))
	}
	stops(t, 0, "INT#0", api.FaultKind, "fault", "fault A11", "fault A-1", "fault A"+greatest, "fault A"+least)
}

// Standard blocks: over cells that must be there, of the kinds of their variables.
func TestBlocks(t *testing.T) {
	ctu := "BOOL#1 BOOL#0 INT#1 BOOL#0 INT#0 BOOL#0"
	runs(t, 0, ctu, "BOOL#1 BOOL#0 INT#1 BOOL#1 INT#1 BOOL#1", "block B5 C1", "block B5 C2", "block B5 C1; block B5 C2")
	runs(t, 1, "INT#9 "+ctu, "INT#9 BOOL#1 BOOL#0 INT#1 BOOL#1 INT#1 BOOL#1", "block B5 C1", "block B5 C2 D1")
	runs(t, 1, "INT#9 REF#3 INT#8 "+ctu, "INT#9 REF#3 INT#8 BOOL#1 BOOL#0 INT#1 BOOL#1 INT#1 BOOL#1", "block B5 C3", "block B5 C1 D2")
	stops(t, 0, ctu, api.FaultKind, "block C1", "block B-1 C1", "block B11 C1", "block B"+greatest+" C1", "block C1 D99", "block B11 C3", "block B6 C1 D0; block B9 C1", "block B8 C2", "block B5 C1; block B9 C2")
	stops(t, 0, ctu, api.FaultRef, "block B5 C1 D1", "block B5 C1 D-1", "block B5 C1 D6", "block B5 C2 D1", "block B5 C2 D-1", "block B5 C3", "block B5 C4", "block B5", "block B7 C1", "block B7 C1 D0", "block B5 C1 D"+greatest, "block B5 C1 D"+least)
	// Where they are not all there that is told ahead of their kinds.
	stops(t, 0, "INT#0 INT#0", api.FaultRef, "block B1 C1", "block B5 C1")
	stops(t, 0, "INT#0 INT#0 INT#0", api.FaultKind, "block B1 C1")
	stops(t, 0, "REF#0 BOOL#0 BOOL#0", api.FaultKind, "block B1 C1", "block B1 C3")
	stops(t, 0, "REF#9 BOOL#0 BOOL#0", api.FaultRef, "block B1 C3")
	for kind := api.FbSr; kind < api.NumFbs; kind++ {
		mem := blocks.Start(kind)
		mem[0] = value.Bool(true)
		for i := range mem {
			for _, k := range []api.Kind{api.KBool, api.KInt, api.KTime, api.KRef} {
				other := slices.Clone(mem)
				if other[i].Kind == k {
					continue
				}
				other[i] = api.Value{Kind: k}
				codes := read(t, "block C1; return")
				codes[0].Ops[0].B = kind
				if got := run(codes, 0, other, enough); !got.same(outcome{nil, 1, api.FaultKind}) {
					t.Error(kind, i, k, got)
				}
			}
		}
	}
}

// Blocks go by the time of the run.
func TestBlocksAtTimes(t *testing.T) {
	for kind := api.FbSr; kind < api.NumFbs; kind++ {
		codes := read(t, "block C1; return")
		codes[0].Ops[0].B = kind
		mem := blocks.Start(kind)
		mem[0] = value.Bool(true)
		if mem[1].Kind == api.KTime {
			mem[1].Bits = 10
		}
		for _, now := range []int{0, 5, 9, 15, 99, api.MaxNow} {
			want, _ := blocks.Step(kind, mem, now)
			got, steps, fault := vm.Run(codes, 0, 0, now, of(mem), mem, enough)
			if fault != 0 || steps != 2 || !slices.Equal(got, want) {
				t.Error(kind, now, got, want)
			}
			mem = want
		}
	}
}
