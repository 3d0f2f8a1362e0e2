package vm_test

import (
	"math/rand"
	"slices"
	"testing"

	"relay/api"
	"relay/blocks"
	"relay/listing"
	"relay/vm"
)

// P21.3: where Run does not answer FaultSteps, it answers the same with more steps; with one too few it stops for want of them.
func TestMoreSteps(t *testing.T) {
	r := rand.New(rand.NewSource(2))
	ended, short := 0, 0
	for range 60000 {
		c := someCall(r)
		c.most = r.Intn(25)
		first := c.run()
		if first.fault == api.FaultSteps {
			short++
			continue
		}
		ended++
		for _, more := range []int{1, 2, r.Intn(1000), 1 << 30} {
			d := c
			d.most += more
			if got := d.run(); !got.same(first) {
				t.Fatal(c.most, more, first, got)
			}
		}
		if first.steps > 0 {
			c.most = first.steps - 1
			if got := c.run(); !got.same(outcome{nil, first.steps - 1, api.FaultSteps}) {
				t.Fatal(first, got)
			}
		}
	}
	if ended < 10000 || short < 1000 {
		t.Error(ended, short)
	}
}

// P21.4: the cells behind a run have their cells' kinds, so that a run may begin with them.
func TestKindsStay(t *testing.T) {
	r := rand.New(rand.NewSource(3))
	changed := 0
	for range 60000 {
		c := someCall(r)
		first := c.run()
		if first.fault != 0 {
			continue
		}
		for i, v := range first.after {
			if v.Kind != c.cells[i].Kind {
				t.Fatal(i, v)
			}
		}
		if !slices.Equal(first.after, c.mem) {
			changed++
		}
		c.mem, c.most = first.after, 0
		if got := c.run(); !got.same(outcome{nil, 0, api.FaultSteps}) {
			t.Fatal(got)
		}
	}
	if changed < 100 {
		t.Error(changed)
	}
}

// straight is a call of a code without jumps, calls and references, whose base is 0: each cell that it names stands in its instructions.
func straight(r *rand.Rand) call {
	c := someCall(r)
	c.base, c.codes = 0, c.codes[:1]
	f := &c.codes[0]
	for i := range f.Ops {
		o := &f.Ops[i]
		switch o.Code {
		case api.IrJump, api.IrUnless, api.IrCall, api.IrFault:
			*o = api.Op{Code: api.IrConst, Value: soundValue(r, api.KInt)}
		case api.IrLoad, api.IrStore:
			o.B, o.C = 1+r.Intn(2), r.Intn(len(c.mem))
		case api.IrLoadX, api.IrStoreX:
			o.B, o.C, o.Lo, o.Hi = 1+r.Intn(2), r.Intn(len(c.mem)), 0, 1
		case api.IrBlock:
			o.B, o.C, o.D = 1+r.Intn(4), 1+r.Intn(2), r.Intn(len(c.mem))
		}
	}
	return c
}

// P21.5: a cell that no store, block or call names keeps its value.
func TestWhatIsNotNamedStays(t *testing.T) {
	r := rand.New(rand.NewSource(4))
	ended, changed := 0, 0
	for range 60000 {
		c := straight(r)
		got := c.run()
		if got.fault != 0 {
			continue
		}
		ended++
		names := make([]bool, len(c.mem)+20)
		for _, o := range c.codes[0].Ops {
			switch o.Code {
			case api.IrStore:
				names[o.C] = true
			case api.IrStoreX:
				names[o.C], names[o.C+1] = true, true
			case api.IrBlock:
				for k := range blocks.Size(o.B) {
					names[o.D+k] = true
				}
			}
		}
		for i, v := range got.after {
			if v != c.mem[i] {
				changed++
				if !names[i] {
					t.Fatal(listing.Text(c.codes[0]), i, got)
				}
			}
		}
	}
	if ended < 3000 || changed < 300 {
		t.Error(ended, changed)
	}
}

// deepCopy is a call with memory of its own, whose lists have room behind them with something in it.
func deepCopy(c call) call {
	d := c
	d.codes = nil
	for _, f := range c.codes {
		f.Ops, f.Loops = roomy(f.Ops, api.Op{Code: 99}), roomy(f.Loops, api.Loop{Head: 99})
		d.codes = append(d.codes, f)
	}
	d.codes = roomy(d.codes, api.Flat{Regs: -1})
	d.cells, d.mem = roomy(c.cells, api.Cell{Kind: 99}), roomy(c.mem, api.Value{Kind: 99})
	return d
}

func roomy[T any](l []T, behind T) []T {
	return append(append(make([]T, 0, len(l)+2), l...), behind, behind)[:len(l)]
}

// sameList tells whether two lists are the same, with the room behind them.
func sameList[T comparable](a, b []T) bool {
	return len(a) == len(b) && slices.Equal(a[:cap(a)], b[:cap(b)])
}

func sameCall(a, b call) bool {
	for i := range a.codes[:cap(a.codes)] {
		f, g := a.codes[:cap(a.codes)][i], b.codes[:cap(b.codes)][i]
		if !sameList(f.Ops, g.Ops) || !sameList(f.Loops, g.Loops) || f.Regs != g.Regs || f.Slots != g.Slots || f.Cells != g.Cells {
			return false
		}
	}
	return sameList(a.cells, b.cells) && sameList(a.mem, b.mem)
}

// What is handed in stays, the room behind it too; an answer is memory of its own; and it hangs on the arguments alone.
func TestMemory(t *testing.T) {
	r := rand.New(rand.NewSource(5))
	for range 10000 {
		c := someCall(r)
		given, kept := deepCopy(c), deepCopy(c)
		first := given.run()
		if !sameCall(given, kept) {
			t.Fatal(given, kept)
		}
		again := given.run()
		if !again.same(first) {
			t.Fatal(first, again)
		}
		// Neither is changed by what is done to the other, or to what was handed in.
		want := slices.Clone(first.after)
		for i := range again.after[:cap(again.after)] {
			again.after[:cap(again.after)][i] = api.Value{Kind: 98}
		}
		for i := range given.mem[:cap(given.mem)] {
			given.mem[:cap(given.mem)][i] = api.Value{Kind: 97}
		}
		if !slices.Equal(first.after, want) || !sameList(kept.cells, given.cells) {
			t.Fatal(first.after, want)
		}
		cells, same := roomy(c.cells, api.Cell{Kind: 99}), roomy(c.cells, api.Cell{Kind: 99})
		one, two := vm.Start(cells), vm.Start(cells)
		for i := range one[:cap(one)] {
			one[:cap(one)][i] = api.Value{Kind: 98}
		}
		if !sameList(cells, same) || !slices.Equal(two, vm.Start(same)) {
			t.Fatal(cells, two)
		}
	}
}

// Runs beside one another know nothing of one another.
func TestSideBySide(t *testing.T) {
	r := rand.New(rand.NewSource(6))
	var calls []call
	for range 200 {
		calls = append(calls, someCall(r))
	}
	got := make(chan bool)
	for range 4 {
		go func() {
			is := true
			for _, c := range calls {
				is = is && c.run().same(modelRun(c))
			}
			got <- is
		}()
	}
	for range 4 {
		if !<-got {
			t.Error("another outcome")
		}
	}
}
