package opt_test

import (
	"fmt"
	"math/rand"
	"reflect"
	"slices"
	"testing"

	"relay/api"
	"relay/ir"
	"relay/listing"
	"relay/opt"
)

// Codes that ir makes become what the chapter's sentences make of them.
func TestModel(t *testing.T) {
	shorter := 0
	each(t, 250, func(r *rand.Rand, f api.Flat) {
		g, want := short(t, f), modelFlat(f)
		if !same(g, want) {
			t.Fatalf("%s\n got %s\nwant %s", listing.Text(f), listing.Text(g), listing.Text(want))
		}
		if len(g.Ops) < len(f.Ops) {
			shorter++
		}
	})
	if shorter < 500 {
		t.Error(shorter)
	}
}

// So do codes by hand.
func TestModelByHand(t *testing.T) {
	r := rand.New(rand.NewSource(1))
	shorter := 0
	for range 100000 {
		f := some(r)
		g, want := short(t, f), modelFlat(f)
		if !same(g, want) {
			t.Fatalf("%s\n got %s\nwant %s", listing.Text(f), listing.Text(g), listing.Text(want))
		}
		if len(g.Ops) < len(f.Ops) {
			shorter++
		}
	}
	if shorter < 50000 {
		t.Error(shorter)
	}
}

// P18.3: there are no more instructions and no more loops; P18.4: what Flat answers it answers again.
func TestLessAndDone(t *testing.T) {
	look := func(f api.Flat) {
		g := short(t, f)
		if len(g.Ops) > len(f.Ops) || len(g.Loops) > len(f.Loops) || len(g.Ops) == 0 || !same(short(t, g), g) {
			t.Fatalf("%s\n got %s", listing.Text(f), listing.Text(g))
		}
	}
	r := rand.New(rand.NewSource(2))
	for range 30000 {
		look(some(r))
	}
	each(t, 150, func(r *rand.Rand, f api.Flat) { look(f) })
}

// unset is the first instruction that reads a register which some way to it does not set; -1, if there is none.
func unset(f api.Flat) int {
	for reg := range f.Regs {
		// Which places are come to without the register being set.
		come := make([]bool, len(f.Ops))
		open := []int{0}
		for len(open) > 0 {
			at := open[0]
			open = open[1:]
			if come[at] {
				continue
			}
			come[at] = true
			if slices.Contains(ir.Uses(f.Ops[at]), reg) {
				return at
			}
			if ir.Gives(f.Ops[at]) != reg {
				open = append(open, ir.Next(f.Ops[at], at)...)
			}
		}
	}
	return -1
}

// astray is the first instruction that leads back, but not to the Head of a loop around it; -1, if there is none.
func astray(f api.Flat) int {
	for at, o := range f.Ops {
		for _, next := range ir.Next(o, at) {
			isHead := func(l api.Loop) bool { return l.Head == next && at >= l.Head && at < l.End }
			if next < 0 || next >= len(f.Ops) || next <= at && !slices.ContainsFunc(f.Loops, isHead) {
				return at
			}
		}
	}
	return -1
}

// P18.7: P17.3 and P17.4 hold of what Flat makes of what ir made, but that the last instruction need not be IrReturn, where nothing comes to that.
func TestSetAheadAndEnds(t *testing.T) {
	loops := 0
	each(t, 250, func(r *rand.Rand, f api.Flat) {
		g := short(t, f)
		if at := unset(g); at >= 0 {
			t.Fatal(listing.Text(f), listing.Text(g), at)
		}
		if at := astray(g); at >= 0 {
			t.Fatal(listing.Text(f), listing.Text(g), at)
		}
		for _, l := range g.Loops {
			if l.Head >= l.End || l.End > len(g.Ops) {
				t.Fatal(l, listing.Text(g))
			}
			loops++
		}
	})
	if loops < 200 {
		t.Error(loops)
	}
}

// What is handed in stays, spare room too; what is answered is memory of its own, and the same each time.
func TestMemory(t *testing.T) {
	look := func(f api.Flat) {
		f.Ops = append(slices.Clone(f.Ops), api.Op{Code: api.IrMove, A: 77})[:len(f.Ops)]
		f.Loops = append(slices.Clone(f.Loops), api.Loop{Times: 77})[:len(f.Loops)]
		before := fmt.Sprint(f, f.Ops[:cap(f.Ops)], f.Loops[:cap(f.Loops)])
		a, b := short(t, f), short(t, f)
		if !reflect.DeepEqual(a, b) {
			t.Fatal(a, b)
		}
		for i := range a.Ops[:cap(a.Ops)] {
			a.Ops[:cap(a.Ops)][i] = api.Op{A: 99}
		}
		for i := range a.Loops[:cap(a.Loops)] {
			a.Loops[:cap(a.Loops)][i] = api.Loop{Times: 99}
		}
		if fmt.Sprint(f, f.Ops[:cap(f.Ops)], f.Loops[:cap(f.Loops)]) != before || !same(b, short(t, f)) {
			t.Fatal("shared")
		}
	}
	r := rand.New(rand.NewSource(3))
	for range 3000 {
		look(some(r))
	}
	each(t, 30, func(r *rand.Rand, f api.Flat) { look(f) })
	look(read(t, "load A1 B1; store A1 B1; return"))
	known := append([]api.Value{{Kind: api.KInt, Bits: 1}}, api.Value{Bits: 77})[:1]
	opt.Fold(api.Op{Code: api.IrTurn, D: api.OpNeg}, known)
	if known[0].Bits != 1 || known[:2][1].Bits != 77 {
		t.Error(known[:2])
	}
}

// Whatever numbers a code has, the call ends.
func TestAnyNumbers(t *testing.T) {
	r := rand.New(rand.NewSource(4))
	number := func() int { return pick(r, -1<<63, -1, 0, 1, 2, 3, 7, 1<<40, 1<<63-1) }
	refused := 0
	for range 50000 {
		f := some(r)
		for range 1 + r.Intn(4) {
			o := &f.Ops[r.Intn(len(f.Ops))]
			*pick(r, &o.Code, &o.A, &o.B, &o.C, &o.D, &o.Lo, &o.Hi) = number()
		}
		if len(f.Loops) > 0 && r.Intn(3) == 0 {
			l := &f.Loops[r.Intn(len(f.Loops))]
			*pick(r, &l.Head, &l.End, &l.Times) = number()
		}
		g, why := opt.Flat(f)
		switch why {
		case api.OK:
			if !same(short(t, g), g) || len(g.Ops) > len(f.Ops) {
				t.Fatal(listing.Text(f), listing.Text(g))
			}
		case api.ErrArg:
			refused++
			if !same(g, api.Flat{}) {
				t.Fatal(g)
			}
		default:
			t.Fatal(why)
		}
		opt.Fold(f.Ops[0], []api.Value{someValue(r), someValue(r)}[:r.Intn(3)])
	}
	if refused < 5000 {
		t.Error(refused)
	}
}
