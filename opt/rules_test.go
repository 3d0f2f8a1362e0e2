package opt_test

import (
	"strconv"
	"strings"
	"testing"

	"relay/api"
	"relay/listing"
	"relay/opt"
)

// row is a code's listing, and what Flat makes of it.
type row struct{ from, want string }

func check(t *testing.T, rows []row) {
	t.Helper()
	for _, x := range rows {
		f := read(t, x.from)
		if got := listing.Text(short(t, f)); got != x.want {
			t.Errorf("%s\n got %s\nwant %s", x.from, got, x.want)
		}
		if got := listing.Text(modelFlat(f)); got != x.want {
			t.Errorf("%s\nmodel %s\n want %s", x.from, got, x.want)
		}
	}
}

// stays is codes of which nothing goes out and nothing changes.
func stays(t *testing.T, l ...string) {
	t.Helper()
	for _, s := range l {
		check(t, []row{{s, s}})
	}
}

// The chapter's examples.
func TestExamples(t *testing.T) {
	check(t, []row{
		{"const INT#2; const A1 INT#3; do A2 C1 add; store A2 B1; return", "const A2 INT#5; store A2 B1; return"},
		{"const TRUE; unless B2; return", "return"},
	})
	stays(t, "const INT#32767; const A1 INT#1; do A2 C1 add; store A2 B1; return",
		"load B1; unless B5; load A1 B1; store A1 B1; jump B8; load A2 B1; store A2 B1; store A2 B1; return")
	if got := listing.Text(short(t, program(t, "IF FALSE THEN i := 1; END_IF;"))); got != "return" {
		t.Error(got)
	}
}

// P18.2: what Flat refuses, and what it does not.
func TestRefused(t *testing.T) {
	for _, s := range []string{
		"const INT#1", "load B1", "unless", "return; store B1", "return; unless", "return; spill", // the last one
		"jump B1", "jump B-1", "load B1; unless B3; return", "load B1; unless B-1; return", "return; jump B2", "jump B99; return", // a jump's B
		"return; loop -1 1 1", "return; loop 0 2 1", "return; loop 2 2 1", "return; loop 1 0 1", "return; loop 0 1 5; loop 0 -1 1", // a loop
	} {
		if f, why := opt.Flat(read(t, s)); why != api.ErrArg || !same(f, api.Flat{}) {
			t.Error(s, f, why)
		}
	}
	for _, f := range []api.Flat{{}, {Name: "F", Regs: 3, Loops: []api.Loop{{}}}, {Ops: []api.Op{}}, {Ops: []api.Op{{Code: 99}}}, {Ops: []api.Op{{}}}} {
		if g, why := opt.Flat(f); why != api.ErrArg || !same(g, api.Flat{}) {
			t.Error(f, g, why)
		}
	}
	// At the edges
	stays(t, "return", "fault A6", "jump", "call B3; jump", "return; loop 0 1 0", "store B1; return; loop 0 2 -7; loop 1 2 1")
	check(t, []row{{"return; loop 1 1 1; loop 0 0 5", "return"}})
}

// All else of a code stays.
func TestFields(t *testing.T) {
	f, want := read(t, "const INT#2; const A1 INT#3; do A2 C1 add; store A2 B1; return; loop 0 5 3; loop 4 5 4"), read(t, "const A2 INT#5; store A2 B1; return; loop 0 3 3; loop 2 3 4")
	for _, x := range []*api.Flat{&f, &want} {
		x.Name, x.What, x.Cells, x.Base, x.Regs, x.Slots = "F", 9, -8, 7, 6, 5
	}
	if g := short(t, f); !same(g, want) {
		t.Error(g, want)
	}
}

// Rule 1: what is known is reckoned ahead.
func TestKnown(t *testing.T) {
	check(t, []row{
		{"const INT#2; move A1; store A1 B1; return", "const A1 INT#2; store A1 B1; return"},
		{"const INT#2; turn A1 neg; store A1 B1; return", "const A1 INT#-2; store A1 B1; return"},
		{"const INT#2; conv A1 LREAL; store A1 B1; return", "const A1 LREAL#4611686018427387904; store A1 B1; return"},
		{"const INT#4; do A1 mul; store A1 B1; return", "const A1 INT#16; store A1 B1; return"},
		// One reckoning leads to the next, round by round.
		{"const INT#1; do A1 add; do A2 B1 C1 add; do A3 B2 C2 add; conv A4 B3 STRING; text A4 H1; store A4 B1; return", "const A4 STRING'8; store A4 B1; return"},
		// The last instruction ahead that gives the register counts.
		{"const INT#1; const INT#2; do A1 add; store A1 B1; return", "const A1 INT#4; store A1 B1; return"},
		{"const INT#2; do add; do add; store B1; return", "const INT#2; const INT#4; const INT#8; store B1; return"},
	})
	stays(t,
		// A fault stays a fault.
		"const INT#1; const A1 INT#0; do A2 C1 div; store A2 B1; return",
		"const STRING'x; conv A1 INT; store A1 B1; return",
		"const REF#1; move A1; store A1 B1; return",
		// One of two is not known.
		"const INT#1; load A1 B1; do A2 C1 add; store A2 B1; return",
		"const INT#1; load B1; turn A1 neg; store A1 B1; return",
		"const INT#1; std D3; turn A1 neg; store A1 B1; return",
		// Others are no matter of this rule.
		"const INT#1; loadx A1 B1 L1 H2; store A1 B1; return",
		"const INT#1; arg; std A1 C1 D3; store A1 B1; return",
		"const INT#1; storex B1 H2; return",
	)
}

// Checks and texts that go out, and that stay.
func TestBounds(t *testing.T) {
	check(t, []row{
		{"const INT#5; check L0 H9; store B1; return", "const INT#5; store B1; return"},
		{"const INT#5; check L5 H5; store B1; return", "const INT#5; store B1; return"},
		{"const SINT#-5; check L-5 H-5; store B1; return", "const SINT#-5; store B1; return"},
		{"const ULINT#9; check H9; return", "return"},
		{"const STRING'abc; text H3; store B1; return", "const STRING'abc; store B1; return"},
		{"const STRING#0; text; return", "return"},
	})
	stays(t,
		"const INT#5; check H4; return", "const INT#5; check L6 H9; return", "const SINT#-5; check L-4; return",
		"const ULINT#9223372036854775808; check H9223372036854775807; return",                                                                  // above every Hi
		"const BYTE#5; check H9; return", "const TRUE; check H9; return", "const TIME#5; check H9; return", "const STRING'5; check H9; return", // no integer
		"const STRING'abcd; text H3; return", "const INT#5; text H3; return", // no STRING
		"load B1; check H4; return", "load B1; text H4; return",
	)
}

// Conditions that are known.
func TestConditions(t *testing.T) {
	check(t, []row{
		{"const TRUE; unless B4; store A1 B1; return; store A2 B1; return", "store A1 B1; return"},
		{"const FALSE; unless B4; store A1 B1; return; store A2 B1; return", "store A2 B1; return"},
		{"const INT#1; do A1 eq; unless A1 B5; store A2 B1; return; store A3 B1; return", "store A2 B1; return"},
		{"const INT#1; do A1 ne; unless A1 B5; store A2 B1; return; store A3 B1; return", "store A3 B1; return"},
	})
	stays(t, "load B1; unless B4; store A1 B1; return; store A2 B1; return",
		"const INT#1; unless B4; store A1 B1; return; store A2 B1; return")
}

// A stretch begins where something leads, at loops' Heads and Ends, and behind what leads elsewhere; nothing is known across its beginning.
func TestStretches(t *testing.T) {
	stays(t,
		"load A9 B3; const INT#1; unless A9 B4; call B1; turn A1 neg; store A1 B1; return",
		"const INT#1; turn A1 neg; store A1 B1; return; loop 1 4 5", // a Head
		"const INT#1; turn A1 neg; store A1 B1; return; loop 0 1 5", // an End
		"load A9 B1; unless A9 B4; const INT#1; jump B5; const INT#2; turn A1 neg; store A1 B1; return",
	)
	check(t, []row{
		// Ahead of a place to which a jump leads that goes out, nothing begins any more, in the next round.
		{"const INT#1; jump B2; turn A1 neg; store A1 B1; return", "const A1 INT#-1; store A1 B1; return"},
		{"load A9 B1; const INT#1; unless A9 B3; turn A1 neg; store A1 B1; return", "const A1 INT#-1; store A1 B1; return"},
		// Calls and stores end none.
		{"const INT#1; call B1; store B1; block B9; turn A1 neg; store A1 B1; return", "const INT#1; call B1; store B1; block B9; const A1 INT#-1; store A1 B1; return"},
		// Behind an instruction that goes out, too.
		{"const TRUE; const A1 INT#1; unless B3; turn A2 B1 neg; store A2 B1; return", "const A2 INT#-1; store A2 B1; return"},
		// A loop that becomes empty begins none any more.
		{"const INT#1; jump B2; turn A1 neg; store A1 B1; return; loop 1 2 3", "const A1 INT#-1; store A1 B1; return"},
	})
}

// Rule 2: jumps along jumps; in a ring they stay.
func TestThreads(t *testing.T) {
	check(t, []row{
		{"load B1; unless B4; store A1 B1; return; jump B6; return; store A2 B1; return", "load B1; unless B4; store A1 B1; return; store A2 B1; return"},
		{"load B1; unless B4; store A1 B1; jump B5; jump B7; jump B8; return; store A2 B1; store A3 B1; return", "load B1; unless B4; store A1 B1; jump B5; store A2 B1; store A3 B1; return"},
		// Back to a loop's Head
		{"load B1; unless B4; store A1 B1; jump B5; store A2 B1; jump; loop 0 6 3", "load B1; unless B4; store A1 B1; jump; store A2 B1; jump; loop 0 6 3"},
		// Rings
		{"jump B1; jump", "jump"},
		{"load B1; unless B3; return; jump B4; jump B3", "load B1; unless B3; return; jump B3"},
		{"load B1; unless B4; jump B3; jump B3; jump B3", "load B1; unless B3; jump B2; jump B2"},
	})
	stays(t, "jump", "load B1; unless B3; return; jump B3", "load B1; unless B3; jump B2; store B1; return", "load B1; unless; return",
		// What an IrUnless leads to is no jump's way.
		"load B1; unless B3; return; unless B2; store B1; return")
}

// Rule 3: what nothing comes to goes out.
func TestDead(t *testing.T) {
	check(t, []row{
		{"return; return", "return"},
		{"return; store B1; call B1; return", "return"},
		{"fault A6; store B1; return", "fault A6"},
		{"jump B2; store B1; store A1 B1; return", "store A1 B1; return"},
		{"call B1; return; jump B1", "call B1; return"},
		{"jump; return; loop 0 1 4; loop 1 2 5", "jump; loop 0 1 4"},
		// What only leads to itself
		{"return; jump B2; jump B1", "return"},
	})
}

// Rule 4: jumps to the next place.
func TestIdle(t *testing.T) {
	check(t, []row{
		{"call B1; jump B2; return", "call B1; return"},
		{"load B3; unless B2; return", "load B3; return"},
		{"load B1; unless B2; return", "return"},
		{"std A1 D3; unless A1 B2; store A1 B1; return", "std A1 D3; store A1 B1; return"},
		// What lies between goes out first.
		{"load B1; unless B4; const A1 INT#1; turn A2 B1 neg; return", "return"},
	})
	stays(t, "load B1; unless B3; call B1; return", "load B1; unless B1; return", "call B1; jump")
}

// Rule 5: registers that nothing reads.
func TestUnread(t *testing.T) {
	check(t, []row{
		{"const INT#1; return", "return"},
		{"load B1 C5; return", "return"},
		{"load B2 C5; return", "return"},
		{"ref B1 C5; return", "return"},
		{"ref B2 C5; return", "return"},
		{"std D3; move A1; return", "std D3; return"},
		// What only they read goes next.
		{"load B1; move A1; move A2 B1; return", "return"},
		// A register that another instruction gives too
		{"const INT#1; load B1; return", "return"},
	})
	stays(t,
		"load B3 C5; return", "load B7 C5; return", // a reference, or nothing that can be
		"std D3; return", "loadx B1; return", "refx B1; return", "load B3; do A1 add; return", "load B3; turn A1 neg; return", "load B3; conv A1 INT; return", "fill; return",
		"load B1; store B1; return", "load B1; arg; return", "load B1; check H1; return", "load B1; text H1; return", "load B1; spill; return",
	)
}

// Rule 6: loops that become empty, and what leads to what goes out.
func TestLoops(t *testing.T) {
	check(t, []row{
		{"return; loop 0 0 1; loop 1 1 1; loop 0 1 1", "return; loop 0 1 1"},
		{"call B1; jump B2; return; loop 1 2 7", "call B1; return"},
		{"call B1; jump B4; store B1; jump B2; return; loop 2 4 7; loop 1 4 8", "call B1; return"},
		{"const INT#1; call B1; load A1 B1; unless A1 B5; jump; return; loop 0 5 3", "call B1; load A1 B1; unless A1 B4; jump; return; loop 0 4 3"},
		// Jumps and loops lead to the next one that is left.
		{"load B1; unless B4; call B1; return; const A1 INT#1; const A2 INT#1; call B2; return; loop 4 5 1; loop 4 6 2; loop 4 7 3; loop 2 5 4", "load B1; unless B4; call B1; return; call B2; return; loop 4 5 3; loop 2 4 4"},
		{"call B1; load B1; unless B5; call B2; jump; const A1 INT#1; return; loop 0 5 3; loop 5 7 4", "call B1; load B1; unless B5; call B2; jump; return; loop 0 5 3; loop 5 6 4"},
	})
}

// Whole statements: what is known of them ahead.
func TestStatements(t *testing.T) {
	for body, want := range map[string]string{
		"":                               "return",
		"i := INT#1 + INT#2 * INT#3;":    "const A4 INT#7; store A4 B1 C1; return",
		"r := 5; s := 'abc';":            "const INT#5; store B1 C3; const A1 STRING'abc; store A1 B1 C4; return",
		"r := 10;":                       "const INT#10; check H9; store B1 C3; return",
		"s := 'abcd';":                   "const STRING'abcd; text H3; store B1 C4; return",
		"IF b THEN END_IF;":              "return",
		"IF b THEN ELSE END_IF; i := i;": "load A1 B1 C1; store A1 B1 C1; return",
		"IF TRUE THEN i := 1; ELSE i := 2; END_IF;":                           "const A1 INT#1; store A1 B1 C1; return",
		"IF 1 > 2 THEN i := 1; ELSIF 2 > 1 THEN i := 2; ELSE i := 3; END_IF;": "const A7 INT#2; store A7 B1 C1; return",
		"CASE 2 OF 1: i := 1; 2, 5..7: i := 2; ELSE i := 3; END_CASE;":        "const A12 INT#2; store A12 B1 C1; return",
		"CASE 9 OF 1..5: i := 1; 6: i := 2; ELSE i := 3; END_CASE;":           "const A10 INT#3; store A10 B1 C1; return",
		"RETURN; i := 1;": "return",
		"{BOUND 3} WHILE FALSE DO i := 1; END_WHILE; i := 2;":                    "const A7 INT#2; store A7 B1 C1; return",
		"{BOUND 3} WHILE TRUE DO i := 1; END_WHILE;":                             "const LINT#0; const A2 LINT#3; do A3 C2 lt; unless A3 B10; const A4 LINT#1; do A5 C4 add; move B5; const A6 INT#1; store A6 B1 C1; jump B1; fault A6; loop 1 11 3",
		"{BOUND 3} REPEAT i := 1; UNTIL TRUE END_REPEAT;":                        "const LINT#0; const A1 LINT#3; do A2 C1 lt; unless A2 B10; const A3 LINT#1; do A4 C3 add; move B4; const A5 INT#1; store A5 B1 C1; jump B11; fault A6; return; loop 1 11 3",
		"{BOUND 3} REPEAT EXIT; UNTIL b END_REPEAT;":                             "const LINT#0; const A1 LINT#3; do A2 C1 lt; unless A2 B8; const A3 LINT#1; do A4 C3 add; move B4; jump B9; fault A6; return; loop 1 9 3",
		"{BOUND 2} WHILE b DO IF b THEN i := 1; ELSE i := 2; END_IF; END_WHILE;": "const LINT#0; load A1 B1 C2; unless A1 B18; const A2 LINT#2; do A3 C2 lt; unless A3 B17; const A4 LINT#1; do A5 C4 add; move B5; load A6 B1 C2; unless A6 B14; const A7 INT#1; store A7 B1 C1; jump B1; const A8 INT#2; store A8 B1 C1; jump B1; fault A6; return; loop 1 18 2",
	} {
		f := program(t, body)
		if got := listing.Text(short(t, f)); got != want {
			t.Errorf("%s\nof   %s\n got %s\nwant %s", body, listing.Text(f), got, want)
		}
	}
}

// Many rounds: each reckons one sum, or one arm of a choice.
func TestManyRounds(t *testing.T) {
	const n = 2000
	if got, want := listing.Text(short(t, program(t, "i := INT#1"+strings.Repeat(" + 1", n)+";"))), "const A4000 INT#2001; store A4000 B1 C1; return"; got != want {
		t.Error(got)
	}
	arms := ""
	for i := range n {
		arms += strconv.Itoa(i) + ": i := " + strconv.Itoa(i) + "; "
	}
	f := program(t, "CASE 1999 OF "+arms+"ELSE i := 5; END_CASE;")
	if g := short(t, f); len(g.Ops) != 3 || g.Ops[0].Value != number(api.KInt, 1999) {
		t.Error(listing.Text(g))
	}
	// Jumps in a long row that leads backwards, out of it or round
	for _, last := range []api.Op{{Code: api.IrReturn}, {Code: api.IrJump, B: 100000}} {
		row := api.Flat{Ops: []api.Op{{Code: api.IrJump, B: 100000}, last}}
		for i := 2; i <= 100000; i++ {
			row.Ops = append(row.Ops, api.Op{Code: api.IrJump, B: i - 1})
		}
		g := short(t, row)
		if want := map[int]int{api.IrReturn: 1, api.IrJump: 100001}[last.Code]; len(g.Ops) != want || !same(short(t, g), g) {
			t.Error(len(g.Ops))
		}
	}
}
