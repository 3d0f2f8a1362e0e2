package opt_test

import (
	"math/rand"
	"slices"
	"testing"

	"relay/api"
	"relay/core"
	"relay/decl"
	"relay/ir"
	"relay/listing"
	"relay/opt"
	"relay/samples"
	"relay/st"
)

// read is a code of a listing.
func read(t *testing.T, text string) api.Flat {
	t.Helper()
	f, is := listing.Read(text)
	if !is {
		t.Fatal(text)
	}
	return f
}

// short is what Flat answers of what may be.
func short(t *testing.T, f api.Flat) api.Flat {
	t.Helper()
	g, why := opt.Flat(f)
	if why != api.OK {
		t.Fatal(listing.Text(f), why)
	}
	return g
}

// same tells whether two codes are the same.
func same(a, b api.Flat) bool {
	return a.Name == b.Name && a.What == b.What && a.Cells == b.Cells && a.Base == b.Base && a.Regs == b.Regs && a.Slots == b.Slots &&
		slices.Equal(a.Ops, b.Ops) && slices.Equal(a.Loops, b.Loops)
}

// compiled is the instructions of sources, whose bodies are all in ST, as change makes them.
func compiled(t *testing.T, change func(l []api.Stmt) []api.Stmt, sources ...string) []api.Flat {
	t.Helper()
	p, _, err := decl.Parse(sources)
	if err != nil {
		t.Fatal(sources, err)
	}
	var bodies [][]api.Stmt
	for _, u := range p.Pous {
		l, err := st.Parse(u.Text)
		if err != nil {
			t.Fatal(u.Text, err)
		}
		bodies = append(bodies, change(l))
	}
	codes, pou, err := core.Check(p, bodies)
	if err != nil {
		t.Fatal(p.Pous[pou].Text, err)
	}
	var l []api.Flat
	for _, c := range codes {
		f, why := ir.Build(c)
		if why != api.OK {
			t.Fatal(c.Name, why)
		}
		l = append(l, f)
	}
	return l
}

func asIs(l []api.Stmt) []api.Stmt { return l }

// program is the instructions of a program with a body; X0 is the cell 0, I 1, B 2, R 3, S 4.
func program(t *testing.T, body string) api.Flat {
	t.Helper()
	return compiled(t, asIs, "PROGRAM p VAR x0 : BOOL; i : INT; b : BOOL; r : INT (0..9); s : STRING[3]; END_VAR "+body+" END_PROGRAM")[0]
}

// each hands on the codes of n projects by chance, every other one with labels and jumps among its statements.
func each(t *testing.T, n int, to func(r *rand.Rand, f api.Flat)) {
	t.Helper()
	for seed := range n {
		r := rand.New(rand.NewSource(int64(seed)))
		change := asIs
		if seed%2 > 0 {
			change = func(l []api.Stmt) []api.Stmt { return samples.WithJumps(r.Intn, l) }
		}
		for _, f := range compiled(t, change, samples.Sources(r.Intn)...) {
			to(r, f)
		}
	}
}

// pick is one of several things, by chance.
func pick[T any](r *rand.Rand, l ...T) T { return l[r.Intn(len(l))] }

// some is a code by chance that may be, over few registers and places, so that much is known, and much leads along jumps.
func some(r *rand.Rand) api.Flat {
	n := 1 + r.Intn(14)
	f := api.Flat{Name: "F", What: 1 + r.Intn(3), Cells: r.Intn(9), Base: r.Intn(9), Regs: 4, Slots: 4}
	for range n - 1 {
		f.Ops = append(f.Ops, someOp(r, n))
	}
	last := someOp(r, n)
	last.Code, last.B = pick(r, api.IrJump, api.IrFault, api.IrReturn), r.Intn(n)
	f.Ops = append(f.Ops, last)
	for range r.Intn(3) {
		a, b := r.Intn(n+1), r.Intn(n+1)
		f.Loops = append(f.Loops, api.Loop{Head: min(a, b), End: max(a, b), Times: r.Intn(5)})
	}
	return f
}

func someOp(r *rand.Rand, n int) api.Op {
	o := api.Op{A: r.Intn(4), B: r.Intn(4), C: r.Intn(4), D: r.Intn(4)}
	switch r.Intn(12) {
	case 0, 1, 2, 3:
		o = api.Op{Code: api.IrConst, A: o.A, Value: someValue(r)}
	case 4, 5:
		o.Code, o.D = api.IrDo, r.Intn(api.NumOps)
	case 6:
		o.Code, o.D = api.IrTurn, pick(r, api.OpNot, api.OpNeg)
	case 7, 8:
		o.Code, o.B = pick(r, api.IrJump, api.IrUnless, api.IrUnless), r.Intn(n)
	case 9:
		o.Code, o.D = pick(r, api.IrConv, api.IrMove), r.Intn(int(api.NumKind))
	case 10:
		o.Code, o.Lo, o.Hi = pick(r, api.IrCheck, api.IrText), r.Intn(3), r.Intn(5)
	default:
		o.Code = r.Intn(api.NumIr + 1)
		if leads(o) {
			o.B = r.Intn(n)
		}
	}
	return o
}

func someValue(r *rand.Rand) api.Value {
	return pick(r, api.Value{Kind: api.KBool}, api.Value{Kind: api.KBool, Bits: 1}, api.Value{Kind: api.KInt, Bits: uint64(r.Intn(4))},
		api.Value{Kind: api.KUlint, Bits: 1<<64 - 1}, api.Value{Kind: api.KString, Text: pick(r, "", "ab", "abcd")}, api.Value{Kind: api.KRef}, api.Value{})
}
