package alloc_test

import (
	"fmt"
	"slices"
	"strings"
	"testing"

	"relay/alloc"
	"relay/api"
	"relay/listing"
)

// The chapter's example.
const example = "load B1 C3; const A1 INT#1; do A2 C1 add; store A2 B1 C3; return"

// refused is codes that can't be: neither Live nor Alloc takes them.
func refused(t *testing.T, l ...api.Flat) {
	t.Helper()
	for _, f := range l {
		if x, why := alloc.Live(f); why != api.ErrArg || len(x) != 0 {
			t.Error(f.Regs, f.Slots, listing.Text(f), x, why)
		}
		for regs := 3; regs <= 9; regs++ {
			if g, why := alloc.Alloc(f, regs); why != api.ErrArg || !same(g, api.Flat{}) {
				t.Error(f.Regs, f.Slots, listing.Text(f), g, why)
			}
		}
	}
}

// taken is codes that can be.
func taken(t *testing.T, l ...api.Flat) {
	t.Helper()
	for _, f := range l {
		if g := live(t, f); !sameLists(g, modelLive(f)) {
			t.Error(listing.Text(f), g)
		}
		for regs := 4; regs <= 8; regs++ {
			if g := few(t, f, regs); !same(g, modelAlloc(f, regs)) {
				t.Error(listing.Text(f), g)
			}
		}
	}
}

// P19.1: a code that can't be, in each of its ways.
func TestCanBe(t *testing.T) {
	long := func(n int) api.Flat {
		return api.Flat{Ops: slices.Repeat([]api.Op{{Code: api.IrReturn}}, n)}
	}
	of := func(regs int, text string) api.Flat { return read(t, regs, text) }
	slots := func(n int) api.Flat { return api.Flat{Slots: n, Ops: []api.Op{{Code: api.IrReturn}}} }
	code := func(n int) api.Flat { return api.Flat{Regs: 9, Ops: []api.Op{{Code: n}, {Code: api.IrReturn}}} }
	refused(t,
		long(0), long(api.MaxCode+1), long(2*api.MaxCode), api.Flat{Regs: 4, Loops: []api.Loop{{}}},
		code(api.IrSpill), code(api.IrFill), code(0), code(-1), code(api.NumIr), code(1<<40), code(-1<<63), code(1<<63-1),
		slots(1), slots(-1), slots(1<<40),
		of(1<<16+1, "return"), of(1<<40, "return"), of(1<<16+1, "const A5 INT#1; return"),
		// The last one
		of(1, "const INT#1"), of(1, "arg"), of(1, "unless"), of(0, "call"), of(0, "block B1"), of(1, "return; store"), of(1, "return; fill"),
		// A jump's B
		of(0, "jump B1"), of(0, "jump B-1"), of(1, "unless B2; return"), of(1, "unless B-1; return"), of(0, "return; jump B2"), of(1, "unless B99; return"), of(0, "jump B9223372036854775807"),
		// Loops
		of(0, "return; loop -1 1 1"), of(0, "return; loop 0 2 1"), of(0, "return; loop 2 2 1"), of(0, "return; loop 1 0 1"), of(0, "return; loop 0 1 5; loop 0 -1 1"),
		of(0, "return; loop -9223372036854775808 0 1"), of(0, "return; loop 0 9223372036854775807 1"),
	)
	taken(t, of(0, "return"), of(0, "fault A6"), of(0, "jump"), of(0, "fault A-7"), of(0, "call B3 C2 D4; jump"), of(1, "unless B1; return"), of(1, "unless; return"),
		of(0, "return; loop 0 1 0"), of(0, "return; loop 1 1 1; loop 0 0 5; loop 0 1 -7"), of(1<<16, "return"), of(1<<16, "const A65535 INT#1; return"),
		// There is no register that it could miss.
		of(-1, "return"), of(-1<<63, "block B1 C7 D-2; fault A1"))
	f := long(api.MaxCode)
	if l := live(t, f); slices.ContainsFunc(l, func(l []int) bool { return len(l) > 0 }) {
		t.Error(l)
	}
	if g := few(t, f, 4); g.Regs != 4 || g.Slots != 0 || !slices.Equal(g.Ops, f.Ops) {
		t.Error(g.Regs, g.Slots, len(g.Ops))
	}
}

// P19.1: registers that are read or set must be there; other fields may be whatever they are.
func TestRegisters(t *testing.T) {
	// The fields that name registers
	rows := map[int]string{
		api.IrConst: "A", api.IrMove: "AB", api.IrLoad: "A", api.IrStore: "A", api.IrLoadX: "AD", api.IrStoreX: "AD", api.IrRef: "A", api.IrRefX: "AD",
		api.IrDo: "ABC", api.IrTurn: "AB", api.IrConv: "AB", api.IrArg: "A", api.IrStd: "A", api.IrCheck: "A", api.IrText: "A", api.IrJump: "",
		api.IrUnless: "A", api.IrCall: "", api.IrBlock: "", api.IrFault: "", api.IrReturn: "",
	}
	for code := api.IrConst; code <= api.IrReturn; code++ {
		fields, is := rows[code]
		if !is {
			t.Fatal(code)
		}
		for letter := 'A'; letter <= 'D'; letter++ {
			if letter == 'B' && (code == api.IrJump || code == api.IrUnless) {
				continue
			}
			for _, n := range []int{-1 << 63, -1, 0, 4, 5, 1 << 16, 1<<63 - 1} {
				o := api.Op{Code: code, A: 1, B: 1, C: 1, D: 1, Lo: -5, Hi: -9, Value: api.Value{Kind: 77}}
				*map[rune]*int{'A': &o.A, 'B': &o.B, 'C': &o.C, 'D': &o.D}[letter] = n
				f := api.Flat{Regs: 5, Ops: []api.Op{o, {Code: api.IrReturn}}}
				if strings.ContainsRune(fields, letter) && (n < 0 || n > 4) {
					refused(t, f)
				} else {
					taken(t, f)
				}
			}
		}
	}
	// A code without registers
	refused(t, read(t, 0, "const INT#1; return"), read(t, 0, "arg; return"), read(t, -1, "arg; return"), read(t, 1<<16, "const A65536 INT#1; return"))
}

// row is a code over so many registers, and what is live behind each of its instructions.
type row struct {
	regs int
	from string
	want string
}

// P19.1: lives across jumps and loops.
func TestLive(t *testing.T) {
	for _, x := range []row{
		{3, example, "[[0] [0 1] [2] [] []]"},
		{1, "return", "[[]]"},
		// Set, and never read; set again ahead of what reads it
		{2, "const INT#1; const A1 INT#2; return", "[[] [] []]"},
		{1, "const INT#1; const INT#2; arg; return", "[[] [0] [] []]"},
		{1, "const INT#1; arg; arg; return", "[[0] [0] [] []]"},
		// What reads and sets a register, reads it first.
		{1, "const INT#1; turn neg; arg; return", "[[0] [0] [] []]"},
		{1, "turn neg; return", "[[] []]"},
		{1, "const INT#1; move; return", "[[0] [] []]"},
		// Live ahead of what sets it: on one way it is not set.
		{2, "arg A1; const A1 INT#1; return", "[[] [] []]"},
		{2, "unless A1 B2; const INT#1; arg; return", "[[0] [0] [] []]"},
		{3, "const INT#1; arg A2; const A2 INT#1; arg A2; arg; return", "[[0 2] [0] [0 2] [0] [] []]"},
		// Both ways, one way, no way behind IrUnless
		{3, "const TRUE; const A1 INT#1; const A2 INT#2; unless B6; arg A1; jump B7; arg A2; return", "[[0] [0 1] [0 1 2] [1 2] [] [] [] []]"},
		{2, "const TRUE; const A1 INT#1; unless B4; arg A1; return", "[[0] [0 1] [1] [] []]"},
		{2, "const TRUE; const A1 INT#1; unless B3; return", "[[0] [0] [] []]"},
		// A jump over what reads it
		{1, "const INT#1; jump B3; arg; return", "[[] [] [] []]"},
		{1, "const INT#1; jump B3; return; arg; return", "[[0] [0] [] [] []]"},
		{1, "const INT#1; return; arg; return", "[[] [] [] []]"},
		{1, "const INT#1; fault A6; arg; return", "[[] [] [] []]"},
		// Loops: live through the whole of it, also behind what reads it last
		{3, "const LINT#0; const A1 TRUE; unless A1 B5; arg; jump B1; return; loop 1 5 3", "[[0] [0 1] [0] [0] [0] []]"},
		{3, "const LINT#0; const A1 LINT#5; do A2 C1 lt; unless A2 B8; const A1 LINT#1; do A2 C1 add; move B2; jump B1; return; loop 1 8 5", "[[0] [0 1] [0 2] [0] [0 1] [2] [0] [0] []]"},
		{2, "jump B3; arg A1; return; const A1 INT#1; jump B1", "[[] [] [] [1] [1]]"},
		{1, "arg; jump", "[[0] [0]]"},
		{1, "jump", "[[]]"},
		{1, "arg; const INT#1; jump", "[[] [0] [0]]"},
		// Registers that are read twice, and each place that reads
		{2, "const INT#1; do A1 mul; storex A1 D1 B1; return", "[[0] [1] [] []]"},
		{6, "storex A5 B1 D4; loadx A3 B1 D2; refx A1 B1 D0; return", "[[0 2] [0] [] []]"},
		{6, "check A5; text A4; conv A3 B2 INT; std A1 C2; unless B6; call B5; return", "[[0 2 4] [0 2] [0] [0] [] [] []]"},
		// Registers whose numbers lie far apart
		{1 << 16, "const A65535 INT#1; const A256 INT#1; const A255 INT#1; const A64 INT#1; const A63 INT#1; arg A63; arg A64; arg A255; arg A256; arg A65535; return",
			"[[65535] [256 65535] [255 256 65535] [64 255 256 65535] [63 64 255 256 65535] [64 255 256 65535] [255 256 65535] [256 65535] [65535] [] []]"},
	} {
		f := read(t, x.regs, x.from)
		if got := fmt.Sprint(live(t, f)); got != x.want {
			t.Errorf("%s\n got %s\nwant %s", x.from, got, x.want)
		}
		if got := fmt.Sprint(modelLive(f)); got != x.want {
			t.Errorf("%s\nmodel %s\nwant %s", x.from, got, x.want)
		}
	}
}

// dealt is a code over so many registers, the registers that a machine has, and what Alloc makes of it, with so many slots.
type dealt struct {
	regs, have int
	from, want string
	slots      int
}

func check(t *testing.T, rows []dealt) {
	t.Helper()
	for _, x := range rows {
		f := read(t, x.regs, x.from)
		g, m := few(t, f, x.have), modelAlloc(f, x.have)
		if got := listing.Text(g); got != x.want || g.Slots != x.slots || g.Regs != x.have {
			t.Errorf("%s\n got %s %d\nwant %s %d", x.from, got, g.Slots, x.want, x.slots)
		}
		if got := listing.Text(m); got != x.want || m.Slots != x.slots {
			t.Errorf("%s\nmodel %s %d\n want %s %d", x.from, got, m.Slots, x.want, x.slots)
		}
	}
}

func TestExample(t *testing.T) {
	check(t, []dealt{
		{3, 8, example, example, 0},
		{3, 6, example, example, 0},
		{3, 5, example, "load B1 C3; const A1 INT#1; do A4 C1 add; spill A4; fill A2; store A2 B1 C3; return", 1},
		{3, 4, example, "load B1 C3; const A3 INT#1; spill A3; fill A1; do A3 C1 add; spill A3 B1; fill A1 B1; store A1 B1 C3; return", 2},
	})
}

// Places: the lowest free one; free only behind the instruction at which a life ended.
func TestPlaces(t *testing.T) {
	check(t, []dealt{
		// One that ended ahead is free.
		{2, 4, "const INT#1; arg; const A1 INT#2; arg A1; return", "const INT#1; arg; const INT#2; arg; return", 0},
		// One that ends where another one begins is not free yet.
		{2, 8, "const INT#1; turn A1 neg; arg A1; return", "const INT#1; turn A1 neg; arg A1; return", 0},
		{2, 4, "const INT#1; turn A1 neg; arg A1; return", "const INT#1; turn A3 neg; spill A3; fill A1; arg A1; return", 1},
		{3, 5, "const INT#1; turn A1 neg; turn A2 B1 neg; arg A2; return", "const INT#1; turn A1 neg; turn B1 neg; arg; return", 0},
		// The lowest of several, whatever became free last
		{5, 6, "const INT#1; const A1 INT#2; const A2 INT#3; arg; arg A2; arg A1; const A4 INT#4; const A3 INT#5; arg A3; arg A4; return",
			"const INT#1; const A1 INT#2; const A2 INT#3; arg; arg A2; arg A1; const INT#4; const A1 INT#5; arg A1; arg; return", 0},
		{4, 6, "const A3 INT#1; const A1 INT#2; const A2 INT#3; arg A1; const INT#4; arg; arg A2; arg A3; return",
			"const INT#1; const A1 INT#2; const A2 INT#3; arg A1; const A1 INT#4; arg A1; arg A2; arg; return", 0},
		// One that is set and never read has a place at that instruction alone.
		{2, 4, "const A1 INT#1; const INT#2; arg; return", "const INT#1; const INT#2; arg; return", 0},
		{2, 4, "const INT#1; const A1 INT#2; arg; return", "const A3 INT#1; spill A3; const INT#2; fill A1; arg A1; return", 1},
		// Live ahead of what sets it: it begins where the code does; of several that begin there the lower register first.
		{3, 8, "arg A2; const A2 INT#1; const A1 INT#2; arg A2; arg; arg A1; return", "arg A1; const A1 INT#1; const A2 INT#2; arg A1; arg; arg A2; return", 0},
		{3, 5, "arg A2; const A2 INT#1; const A1 INT#2; arg A2; arg; arg A1; return", "arg A1; const A1 INT#1; const A4 INT#2; spill A4; arg A1; arg; fill A2; arg A2; return", 1},
		// Its life goes through a loop, though it is read early in it.
		{3, 5, "const INT#1; arg; const A1 INT#2; arg A1; const A2 TRUE; unless A2 B1; return; loop 1 6 3",
			"const INT#1; arg; const A1 INT#2; arg A1; const A1 TRUE; unless A1 B1; return; loop 1 6 3", 0},
		// What stands where no way comes to has lives too.
		{2, 4, "return; const A1 INT#1; arg A1; return", "return; const INT#1; arg; return", 0},
	})
}

// Which one waits: the one whose life ends last, of several the higher register; and what its place is then.
func TestWaits(t *testing.T) {
	check(t, []dealt{
		// The new one ends last.
		{2, 4, "const INT#1; const A1 INT#2; arg; arg A1; return", "const INT#1; const A3 INT#2; spill A3; arg; fill A1; arg A1; return", 1},
		// Another one ends last: the new one gets its place, and it waits from its beginning on.
		{2, 4, "const INT#1; const A1 INT#2; arg A1; arg; return", "const A3 INT#1; spill A3; const INT#2; arg; fill A1; arg A1; return", 1},
		{3, 5, "const INT#1; const A1 INT#2; const A2 INT#3; arg A2; arg; arg A1; return", "const INT#1; const A4 INT#2; spill A4; const A1 INT#3; arg A1; arg; fill A2; arg A2; return", 1},
		// They end together: the higher one, be it new or not.
		{2, 4, "const INT#1; const A1 INT#2; do C1 add; return", "const INT#1; const A3 INT#2; spill A3; fill A1; do C1 add; return", 1},
		{2, 4, "const A1 INT#1; const INT#2; storex D1 B1; return", "const A3 INT#1; spill A3; const INT#2; fill A1; storex B1 D1; return", 1},
		{3, 5, "const A2 INT#1; const A1 INT#2; const INT#3; do C1 add; arg A2; return", "const A4 INT#1; spill A4; const A1 INT#2; const INT#3; do C1 add; fill A2; arg A2; return", 1},
		{3, 5, "const INT#1; const A2 INT#2; const A1 INT#3; unless A1 B5; jump B0; do C2 add; jump B0", "const INT#1; const A4 INT#2; spill A4; const A1 INT#3; unless A1 B6; jump; fill A2; do C2 add; jump", 1},
		// Slots are numbered as they are given out, and never given back; two wait one behind the other, of which the second had the place of the first.
		{3, 4, "const INT#1; const A1 INT#2; const A2 INT#3; arg A2; arg A1; arg; return",
			"const A3 INT#1; spill A3; const A3 INT#2; spill A3 B1; const INT#3; arg; fill A1 B1; arg A1; fill A1; arg A1; return", 2},
		{4, 4, "const INT#1; const A1 INT#2; do C1 add; arg; const A2 INT#3; const A3 INT#4; do A2 B2 C3 add; arg A2; return",
			"const A3 INT#1; spill A3; const INT#2; fill A1; do A3 B1 add; spill A3; fill A1; arg A1; const A3 INT#3; spill A3 B1; const INT#4; fill A1 B1; do A3 B1 add; spill A3 B1; fill A1 B1; arg A1; return", 2},
	})
}

// Instructions that read one register twice, or two that wait; that set what waits; in each of the fields that name registers.
func TestHands(t *testing.T) {
	const three = "const INT#1; const A1 INT#2; const A2 INT#3; "
	// Over four registers 0 has the place, and 1 and 2 wait, in the slots 0 and 1: all end together.
	const begun = "const INT#1; const A3 INT#2; spill A3; const A3 INT#3; spill A3 B1; "
	const loop = "arg; arg A1; arg A2; jump"
	const looped = "arg; fill A1; arg A1; fill A1 B1; arg A1; jump"
	rows := []struct{ op, want string }{
		{"do B1 C1 mul", "fill A1; do B1 C1 mul"},
		{"do C1 mul", "fill A1; do C1 mul"},
		{"do B1 mul", "fill A1; do B1 mul"},
		{"do B1 C2 sub", "fill A1; fill A2 B1; do B1 C2 sub"},
		{"do B2 C1 sub", "fill A1 B1; fill A2; do B1 C2 sub"},
		{"do A1 B1 C2 sub", "fill A1; fill A2 B1; do A3 B1 C2 sub; spill A3"},
		{"do A2 B1 C1 sub", "fill A1; do A3 B1 C1 sub; spill A3 B1"},
		{"do A2 sub", "do A3 sub; spill A3 B1"},
		{"storex A1 B3 C9 D2 L1 H4", "fill A1; fill A2 B1; storex A1 B3 C9 D2 L1 H4"},
		{"storex A2 B3 C9 D1 L1 H4", "fill A1 B1; fill A2; storex A1 B3 C9 D2 L1 H4"},
		{"storex A1 B1 D1", "fill A1; storex A1 B1 D1"},
		{"storex B1 D2", "fill A1 B1; storex B1 D1"},
		{"storex A2 B1", "fill A1 B1; storex A1 B1"},
		{"loadx B2 C7 D1 L1 H4", "fill A1; loadx B2 C7 D1 L1 H4"},
		{"loadx A1 B2 C7 D1", "fill A1; loadx A3 B2 C7 D1; spill A3"},
		{"refx A2 B2 C7", "refx A3 B2 C7; spill A3 B1"},
		{"refx A2 B2 C7 D2", "fill A1 B1; refx A3 B2 C7 D1; spill A3 B1"},
		{"move B2", "fill A1 B1; move B1"},
		{"move A1 B1", "fill A1; move A3 B1; spill A3"},
		{"move A2", "move A3; spill A3 B1"},
		{"turn A1 B2 not", "fill A1 B1; turn A3 B1 not; spill A3"},
		{"conv A2 B1 DINT", "fill A1; conv A3 B1 DINT; spill A3 B1"},
		{"const A1 INT#9", "const A3 INT#9; spill A3"},
		{"load A1 B2 C1", "load A3 B2 C1; spill A3"},
		{"ref A2 B2 C2", "ref A3 B2 C2; spill A3 B1"},
		{"std A2 C2 D1", "std A3 C2 D1; spill A3 B1"},
		{"store A1 B1 C2", "fill A1; store A1 B1 C2"},
		{"arg A2", "fill A1 B1; arg A1"},
		{"check A2 L1 H2", "fill A1 B1; check A1 L1 H2"},
		{"text A1 H2", "fill A1; text A1 H2"},
		// What names no register stays, though the numbers are those of some.
		{"call B1 C2 D2", "call B1 C2 D2"},
		{"block B2 C1 D1", "block B2 C1 D1"},
		{"fault A2", "fault A2"},
		{"return", "return"},
		{"std C1 D2", "std C1 D2"},
		{"load B1 C2", "load B1 C2"},
		{"store B2 C1", "store B2 C1"},
	}
	for _, x := range rows {
		from, want := three+x.op+"; "+loop, begun+x.want+"; "+looped
		check(t, []dealt{{3, 4, from, want, 2}})
	}
	// IrUnless, too, has its IrFill ahead; the hands of a machine of more registers are its last ones.
	check(t, []dealt{
		{3, 4, three + "unless A2 B4; " + loop, begun + "fill A1 B1; unless A1 B7; " + looped, 2},
		{3, 5, "jump B4; " + three + "do A2 C1 add; unless A2 B1; arg; jump B2", "jump B5; const A4 INT#1; spill A4; const A1 INT#2; const INT#3; fill A2; do B2 C1 add; unless B1; fill A2; arg A2; jump B3", 1},
	})
}

// Jumps and loops lead to where an instruction begins now: its IrFills first; and to the end.
func TestLeads(t *testing.T) {
	const two = "const INT#1; const A1 INT#2; "
	check(t, []dealt{
		{2, 4, two + "do C1 add; unless B2; return; loop 2 4 7; loop 0 5 1; loop 5 5 2; loop 1 2 3; loop 2 2 4",
			"const INT#1; const A3 INT#2; spill A3; fill A1; do C1 add; unless B3; return; loop 3 6 7; loop 0 7 1; loop 7 7 2; loop 1 3 3; loop 3 3 4", 1},
		{2, 4, two + "jump B4; return; storex D1 B1; jump", "const INT#1; const A3 INT#2; spill A3; jump B5; return; fill A1; storex B1 D1; jump", 1},
		{2, 4, two + "jump B4; return; storex D1 B1; jump B1", "const A3 INT#1; spill A3; const INT#2; jump B5; return; fill A1; storex A1 B1; jump B2", 1},
		// Behind an IrSpill begins the next instruction, with its IrFills.
		{2, 4, two + "turn A1 B1 neg; storex D1 B1; unless B3; jump B2; loop 3 4 1", "const INT#1; const A3 INT#2; spill A3; fill A1; turn A3 B1 neg; spill A3; fill A1; storex B1 D1; unless B6; jump B3; loop 6 8 1", 1},
		// An IrUnless that leads to itself comes to its own IrFill.
		{2, 4, two + "unless A1 B2; jump", "const INT#1; const INT#2; unless B2; jump", 0},
		{2, 4, two + "unless A1 B2; arg; jump", "const A3 INT#1; spill A3; const INT#2; unless B3; fill A1; arg A1; jump", 1},
		{2, 4, two + "unless A1 B2; arg; arg A1; jump B2", "const INT#1; const A3 INT#2; spill A3; fill A1; unless A1 B3; arg; fill A1; arg A1; jump B3", 1},
	})
}

// All else of a code stays.
func TestFields(t *testing.T) {
	f := read(t, 3, example+"; loop 2 4 77")
	f.Name, f.What, f.Cells, f.Base = "F", 9, -8, 7
	g := few(t, f, 4)
	if g.Name != "F" || g.What != 9 || g.Cells != -8 || g.Base != 7 || g.Regs != 4 || g.Slots != 2 || !slices.Equal(g.Loops, []api.Loop{{Head: 3, End: 8, Times: 77}}) {
		t.Error(g)
	}
}

// P19.2: how many registers a machine may have.
func TestRegs(t *testing.T) {
	f := read(t, 3, example)
	for _, regs := range []int{-1 << 63, -4, -1, 0, 1, 2, 3, api.MaxRegs + 1, 16, 1 << 16, 1<<63 - 1} {
		if g, why := alloc.Alloc(f, regs); why != api.ErrArg || !same(g, api.Flat{}) {
			t.Error(regs, g, why)
		}
	}
	for regs := 4; regs <= api.MaxRegs; regs++ {
		if g := few(t, f, regs); g.Regs != regs || !same(g, modelAlloc(f, regs)) {
			t.Error(regs, g)
		}
	}
}

// crowd is n registers that live together: of these all wait but those that a machine has places for.
func crowd(n int) api.Flat {
	f := api.Flat{Regs: n}
	for i := range n {
		f.Ops = append(f.Ops, api.Op{Code: api.IrConst, A: i})
	}
	for i := range n {
		f.Ops = append(f.Ops, api.Op{Code: api.IrArg, A: i})
	}
	f.Ops = append(f.Ops, api.Op{Code: api.IrReturn})
	return f
}

// P19.2: ErrFull at its bound, ahead of ErrLong.
func TestFull(t *testing.T) {
	for regs := 4; regs <= api.MaxRegs; regs++ {
		places := regs - 3
		g := few(t, crowd(api.MaxSlots+places), regs)
		if g.Slots != api.MaxSlots || len(g.Ops) != 2*(api.MaxSlots+places)+1+2*api.MaxSlots {
			t.Error(regs, g.Slots, len(g.Ops))
		}
		for _, more := range []int{1, 2, 500, 7000} {
			if g, why := alloc.Alloc(crowd(api.MaxSlots+places+more), regs); why != api.ErrFull || !same(g, api.Flat{}) {
				t.Error(regs, more, why)
			}
		}
	}
}

// P19.2: ErrLong at its bound.
func TestLong(t *testing.T) {
	made := func(n, more int) api.Flat {
		f := read(t, 2, "const INT#1; const A1 INT#2; arg; arg")
		f.Ops = append(f.Ops, slices.Repeat([]api.Op{{Code: api.IrArg, A: 1}}, n)...)
		f.Ops = append(f.Ops, slices.Repeat([]api.Op{{Code: api.IrReturn}}, 1+more)...)
		return f
	}
	// Each IrArg of what waits is two instructions; one IrSpill stands behind what sets it.
	n := (api.MaxCode - 6) / 2
	if g := few(t, made(n, 0), 4); len(g.Ops) != api.MaxCode || g.Slots != 1 {
		t.Error(len(g.Ops), g.Slots)
	}
	for _, x := range [][2]int{{n, 1}, {n + 1, 0}, {n, 2}, {api.MaxCode - 5, 0}} {
		if g, why := alloc.Alloc(made(x[0], x[1]), 4); why != api.ErrLong || !same(g, api.Flat{}) {
			t.Error(x, why)
		}
		if g := few(t, made(x[0], x[1]), 5); g.Slots != 0 {
			t.Error(g.Slots)
		}
	}
}
