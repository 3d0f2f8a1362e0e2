package whole

import (
	"math/rand"
	"slices"
	"testing"

	"relay/api"
	"relay/samples"
	"relay/value"
	"relay/watch"
)

// panel is what watch makes of the image.
func (x *plant) panel(t *testing.T) *watch.Panel {
	t.Helper()
	p, why := watch.New(x.image)
	if why != api.OK {
		t.Fatal(why)
	}
	return p
}

// looked is what all of a panel's cells have.
func (x *plant) looked(t *testing.T, p *watch.Panel) []api.Value {
	t.Helper()
	var all []int
	for i := range x.image.Cells {
		all = append(all, i)
	}
	l, why := p.Look(all)
	if why != api.OK {
		t.Fatal(why)
	}
	return l
}

// someEntries is a script for the image, of which some entries have an error.
func someEntries(r *rand.Rand, x *plant, n int) []api.Entry {
	script := samples.Script(r.Intn, x.image.Cells, n)
	for i := range script {
		switch r.Intn(10) {
		case 0:
			script[i].Advance = pick(r, -1, api.MaxAdvance+1)
		case 1:
			script[i].Inputs = append(script[i].Inputs, api.Input{Addr: "%IX99.9", Value: value.Bool(true)})
		}
	}
	return script
}

// P10, P26.12: whenever the side of a pair that leads goes down, the other one has what a resource has that was handed the same, and goes on as that does, whatever it had done until then.
func TestStandby(t *testing.T) {
	behind, wrong, ran := 0, 0, 0
	each(t, 300, func(r *rand.Rand, x *plant) {
		pair, why := watch.Twin(x.image)
		if why != api.OK {
			t.Fatal(why)
		}
		alone := x.resource(t)
		pair.Start()
		alone.Start()
		script := someEntries(r, x, 26)
		down := r.Intn(len(script))
		for i, e := range script {
			if r.Intn(6) == 0 {
				pair.Follow(r.Intn(4))
			}
			if i == down {
				if !slices.Equal(pair.Cells(1), alone.Cells()) {
					behind++
				}
				if why := pair.Down(0); why != api.OK || pair.Leads() != 1 || !slices.Equal(pair.Cells(1), pair.Cells(0)) {
					t.Fatalf("%q: %v %v %v", x.sources, why, pair.Cells(0), pair.Cells(1))
				}
			}
			a, got := pair.Entry(e.Advance, e.Inputs)
			b, want := alone.Entry(e.Advance, e.Inputs)
			if !same(a, b) || a.Steps != b.Steps || got != want || !slices.Equal(pair.Cells(pair.Leads()), alone.Cells()) {
				t.Fatalf("%q: %v %v, not %v %v", x.sources, a, got, b, want)
			}
			ran += len(a.Ran)
			if got != api.OK {
				wrong++
			}
		}
	})
	if behind < 100 || wrong < 500 || ran < 3000 {
		t.Error(behind, wrong, ran)
	}
}

// P10, P26.11: what is saved of a panel and loaded into another one is what a warm start keeps, and no more.
func TestSaved(t *testing.T) {
	kept := 0
	each(t, 300, func(r *rand.Rand, x *plant) {
		p, q := x.panel(t), x.panel(t)
		p.Start()
		for _, e := range samples.Script(r.Intn, x.image.Cells, 8) {
			p.Entry(e.Advance, e.Inputs)
		}
		p.Stop()
		saved := p.Save()
		p.Reset(true)
		if why := q.Load(saved); why != api.OK || !slices.Equal(x.looked(t, q), x.looked(t, p)) {
			t.Fatalf("%q: %v %v, not %v", x.sources, why, x.looked(t, q), x.looked(t, p))
		}
		for i, v := range x.looked(t, q) {
			if v != x.image.Cells[i].Init {
				kept++
			}
		}
		if why := q.Load(append(saved, 0)); why != api.ErrKept {
			t.Fatal(why)
		}
		// Both go on alike: what was kept is all that another start finds.
		p, plain := x.panel(t), x.resource(t)
		p.Load(saved)
		for i, v := range x.looked(t, p) {
			plain.Poke(i, v)
		}
		p.Start()
		plain.Start()
		for _, e := range samples.Script(r.Intn, x.image.Cells, 6) {
			a, _ := p.Entry(e.Advance, e.Inputs)
			b, _ := plain.Entry(e.Advance, e.Inputs)
			if !same(a, b) || !slices.Equal(x.looked(t, p), plain.Cells()) {
				t.Fatalf("%q: %v, not %v", x.sources, a, b)
			}
		}
	})
	if kept < 300 {
		t.Error(kept)
	}
}

// someForce is a cell of the image and a value for it, by chance, if it may be forced.
func someForce(r *rand.Rand, x *plant, p *watch.Panel) (int, api.Value, bool) {
	cell := r.Intn(len(x.image.Cells))
	v := number(x.image.Cells[cell].Kind, r.Intn(4))
	return cell, v, p.Force(cell, v) == api.OK
}

// P26.9: in whole projects a forced cell has its value behind each entry, and as an output.
func TestHeld(t *testing.T) {
	held := 0
	each(t, 300, func(r *rand.Rand, x *plant) {
		p := x.panel(t)
		cell, v, is := someForce(r, x, p)
		if !is {
			return
		}
		p.Start()
		for _, e := range samples.Script(r.Intn, x.image.Cells, 6) {
			report, _ := p.Entry(e.Advance, e.Inputs)
			if l := x.looked(t, p); l[cell] != v {
				t.Fatalf("%q: %v, not %v", x.sources, l[cell], v)
			}
			for _, o := range report.Outputs {
				if o.Addr == x.image.Cells[cell].Addr && o.Value != v {
					t.Fatalf("%q: %v, not %v", x.sources, o, v)
				}
			}
			held++
		}
	})
	if held < 1000 {
		t.Error(held)
	}
}

// P26.10: what was forced and freed again goes on as a resource does of which that cell was poked.
func TestFreedAgain(t *testing.T) {
	ran := 0
	each(t, 300, func(r *rand.Rand, x *plant) {
		p, plain := x.panel(t), x.resource(t)
		cell, v, is := someForce(r, x, p)
		if !is {
			return
		}
		p.Free(cell)
		plain.Poke(cell, v)
		p.Start()
		plain.Start()
		for _, e := range samples.Script(r.Intn, x.image.Cells, 6) {
			a, _ := p.Entry(e.Advance, e.Inputs)
			b, _ := plain.Entry(e.Advance, e.Inputs)
			if !same(a, b) || a.Steps != b.Steps || !slices.Equal(x.looked(t, p), plain.Cells()) {
				t.Fatalf("%q: %v, not %v", x.sources, a, b)
			}
			ran += len(a.Ran)
		}
	})
	if ran < 1000 {
		t.Error(ran)
	}
}
