package alloc_test

import (
	"math/rand"
	"slices"
	"testing"

	"relay/alloc"
	"relay/api"
	"relay/core"
	"relay/decl"
	"relay/ir"
	"relay/listing"
	"relay/opt"
	"relay/samples"
	"relay/st"
)

// read is the code of a listing, over so many registers.
func read(t *testing.T, regs int, text string) api.Flat {
	t.Helper()
	f, is := listing.Read(text)
	if !is {
		t.Fatal(text)
	}
	f.Regs = regs
	return f
}

// live is what Live answers of what can be.
func live(t *testing.T, f api.Flat) [][]int {
	t.Helper()
	l, why := alloc.Live(f)
	if why != api.OK || len(l) != len(f.Ops) {
		t.Fatal(listing.Text(f), len(l), why)
	}
	return l
}

// few is what Alloc answers of what can be, and takes not too much.
func few(t *testing.T, f api.Flat, regs int) api.Flat {
	t.Helper()
	g, why := alloc.Alloc(f, regs)
	if why != api.OK {
		t.Fatal(listing.Text(f), why)
	}
	return g
}

// same tells whether two codes are the same.
func same(a, b api.Flat) bool {
	return a.Name == b.Name && a.What == b.What && a.Cells == b.Cells && a.Base == b.Base && a.Regs == b.Regs && a.Slots == b.Slots &&
		slices.Equal(a.Ops, b.Ops) && slices.Equal(a.Loops, b.Loops)
}

// sameLists tells whether two lists have the same lists, nil and empty being one.
func sameLists(a, b [][]int) bool { return slices.EqualFunc(a, b, slices.Equal[[]int]) }

// each hands on the codes of n projects by chance, as ir makes them and as opt does; every other project has labels and jumps among its statements.
func each(t *testing.T, n int, to func(r *rand.Rand, f api.Flat)) {
	t.Helper()
	for seed := range n {
		r := rand.New(rand.NewSource(int64(seed)))
		p, _, err := decl.Parse(samples.Sources(r.Intn))
		if err != nil {
			t.Fatal(err)
		}
		var bodies [][]api.Stmt
		for _, u := range p.Pous {
			l, err := st.Parse(u.Text)
			if err != nil {
				t.Fatal(u.Text, err)
			}
			if seed%2 > 0 {
				l = samples.WithJumps(r.Intn, l)
			}
			bodies = append(bodies, l)
		}
		codes, _, err := core.Check(p, bodies)
		if err != nil {
			t.Fatal(err)
		}
		for _, c := range codes {
			f, why := ir.Build(c)
			g, other := opt.Flat(f)
			if why != api.OK || other != api.OK {
				t.Fatal(c.Name, why, other)
			}
			to(r, f)
			to(r, g)
		}
	}
}

// pick is one of several things, by chance.
func pick[T any](r *rand.Rand, l ...T) T { return l[r.Intn(len(l))] }

// some is a code by chance that can be, of at most most instructions, over few registers, whose numbers are those of names.
func some(r *rand.Rand, most int, names ...int) api.Flat {
	n := 1 + r.Intn(most)
	f := api.Flat{Name: "F", What: 1 + r.Intn(3), Cells: r.Intn(9), Base: r.Intn(9), Regs: min(slices.Max(names)+1+r.Intn(2), 1<<16)}
	reg := func() int { return pick(r, names...) }
	jumpy := 2 + r.Intn(12)
	for at := range n {
		o := api.Op{Code: 1 + r.Intn(api.IrReturn), A: reg(), B: reg(), C: reg(), D: reg(), Lo: r.Intn(3), Hi: r.Intn(3)}
		if r.Intn(jumpy) == 0 {
			o.Code = pick(r, api.IrJump, api.IrUnless, api.IrUnless)
		} else if r.Intn(3) > 0 {
			o.Code = pick(r, api.IrConst, api.IrMove, api.IrLoad, api.IrDo, api.IrDo, api.IrStoreX, api.IrArg)
		}
		if at == n-1 {
			o.Code = pick(r, api.IrJump, api.IrFault, api.IrReturn)
		}
		if o.Code == api.IrJump || o.Code == api.IrUnless {
			o.B = r.Intn(n)
		}
		f.Ops = append(f.Ops, o)
	}
	for range r.Intn(3) {
		a, b := r.Intn(n+1), r.Intn(n+1)
		f.Loops = append(f.Loops, api.Loop{Head: min(a, b), End: max(a, b), Times: r.Intn(5)})
	}
	return f
}

// names is the numbers from 0 on, so many of them.
func names(n int) []int {
	var l []int
	for i := range n {
		l = append(l, i)
	}
	return l
}

// someNames is numbers of registers by chance: few or many, one behind the other or far apart.
func someNames(r *rand.Rand) []int {
	if r.Intn(3) > 0 {
		return names(1 + r.Intn(14))
	}
	var l []int
	for range 1 + r.Intn(8) {
		l = append(l, pick(r, 0, 1, 62, 63, 64, 65, 127, 128, 191, 192, 254, 255, 256, 257, 511, 512, 513, 1<<15, 1<<16-2, 1<<16-1))
	}
	return l
}
