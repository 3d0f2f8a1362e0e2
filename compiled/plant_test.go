// Package compiled holds what the layers make of typed trees against what these mean: the same cells, the same fault, and no more steps than are told ahead.
package compiled

import (
	"math/rand"
	"testing"

	"relay/alloc"
	"relay/api"
	"relay/core"
	"relay/decl"
	"relay/ir"
	"relay/layout"
	"relay/opt"
	"relay/samples"
	"relay/st"
	"relay/value"
)

// instance is where a POU lies.
type instance struct{ pou, base int }

// plant is a project by chance: its typed codes, their instructions, these made shorter, its cells with values by chance, and the instances that can be run.
type plant struct {
	r     *rand.Rand
	p     api.Project
	codes []api.Code
	flats []api.Flat
	short []api.Flat
	cells []api.Cell
	mem   []api.Value
	l     []instance
	// How many of its runs went as deep as they may.
	deepest int
}

// newPlant is the plant of sources whose bodies are all in ST, as change makes them.
func newPlant(t *testing.T, r *rand.Rand, sources []string, change func(l []api.Stmt) []api.Stmt) *plant {
	t.Helper()
	x := &plant{r: r}
	x.compile(t, sources, change)
	for _, c := range x.cells {
		x.mem = append(x.mem, x.some(c))
	}
	for i := range x.p.Pous {
		if base, is := layout.Base(x.p, i); is {
			x.add(i, base)
		}
	}
	for i, run := range x.p.Runs {
		pou, _ := layout.Pou(x.p, run.Pou)
		base, _ := layout.Run(x.p, i)
		x.add(pou, base)
	}
	return x
}

// asIs leaves a body as it is.
func asIs(l []api.Stmt) []api.Stmt { return l }

// each hands on n plants by chance, every other one with labels and jumps among its statements.
func each(t *testing.T, n int, to func(x *plant)) {
	t.Helper()
	for seed := range n {
		r := rand.New(rand.NewSource(int64(seed)))
		change := asIs
		if seed%2 > 0 {
			change = func(l []api.Stmt) []api.Stmt { return samples.WithJumps(r.Intn, l) }
		}
		to(newPlant(t, r, samples.Sources(r.Intn), change))
	}
}

// few is codes over so many registers.
func few(t *testing.T, codes []api.Flat, regs int) []api.Flat {
	t.Helper()
	var l []api.Flat
	for _, f := range codes {
		g, why := alloc.Alloc(f, regs)
		if why != api.OK {
			t.Fatal(f.Name, regs, why)
		}
		l = append(l, g)
	}
	return l
}

// compile takes in sources.
func (x *plant) compile(t *testing.T, sources []string, change func(l []api.Stmt) []api.Stmt) {
	t.Helper()
	p, _, err := decl.Parse(sources)
	if err != nil {
		t.Fatal(sources, err)
	}
	var bodies [][]api.Stmt
	for _, u := range p.Pous {
		l, err := st.Parse(u.Text)
		if err != nil {
			t.Fatal(u.Text, err)
		}
		bodies = append(bodies, change(l))
	}
	codes, _, err := core.Check(p, bodies)
	cells, _, other := layout.Cells(p)
	if err != nil || other != nil {
		t.Fatal(sources, err, other)
	}
	x.p, x.codes, x.cells = p, codes, cells
	for _, c := range codes {
		f, why := ir.Build(c)
		g, other := opt.Flat(f)
		if why != api.OK || other != api.OK {
			t.Fatal(c.Name, why, other)
		}
		x.flats, x.short = append(x.flats, f), append(x.short, g)
	}
}

// some is a value by chance that a cell may have.
func (x *plant) some(c api.Cell) api.Value {
	if c.Kind == api.KRef || x.r.Intn(3) == 0 {
		return c.Init
	}
	v, fault := value.Int(c.Kind, x.r.Intn(20)-5)
	if fault != 0 || value.Fits(api.Type{Kind: c.Kind, Sub: c.Sub, Lo: c.Lo, Hi: c.Hi, Max: c.Max}, v) != 0 {
		return c.Init
	}
	return v
}

// add takes in an instance and those within it; its VarInOuts refer to cells of their types, if there are some: else it can't be run.
func (x *plant) add(pou, base int) {
	can := true
	for _, v := range x.p.Pous[pou].Vars {
		at, _, _ := layout.Find(x.p, pou, v.Name)
		if inner, is := layout.Pou(x.p, v.Type.Block); is && x.p.Pous[inner].What == api.PouBlock {
			x.add(inner, base+at)
		}
		if v.Class != api.VarInOut {
			continue
		}
		var fit []int
		for i, c := range x.cells {
			if t := v.Type; c.Kind == t.Kind && c.Sub == t.Sub && c.Lo == t.Lo && c.Hi == t.Hi && c.Max == t.Max {
				fit = append(fit, i)
			}
		}
		if can = can && len(fit) > 0; len(fit) > 0 {
			x.mem[base+at].Bits = uint64(fit[x.r.Intn(len(fit))])
		}
	}
	if can {
		x.l = append(x.l, instance{pou, base})
	}
}
