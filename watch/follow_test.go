package watch_test

import (
	"math/rand"
	"slices"
	"testing"

	"relay/api"
)

// P26.10: a panel whose forced cells were all freed again ahead of an entry differs from one without only in what these cells had.
func TestFreeAgain(t *testing.T) {
	r := rand.New(rand.NewSource(3))
	forces := 0
	for range 2000 {
		m := imageOf(t, someJobs(r)...)
		p, x := panelOf(t, m), resourceOf(t, m)
		for range 8 {
			held := map[int]bool{}
			for range r.Intn(4) {
				cell := r.Intn(numCells)
				ahead := x.Cells()[cell]
				if p.Force(cell, someValue(r, m.Cells[cell])) != api.OK {
					continue
				}
				forces++
				// What it had is put back, unless it does not matter any more.
				held[cell] = true
				if p.Force(cell, ahead) != api.OK {
					l, _ := p.Look([]int{cell})
					must(t, x.Poke(cell, l[0]))
				}
			}
			for cell := range held {
				must(t, p.Free(cell))
			}
			if len(p.Forced()) > 0 {
				t.Fatal(p.Forced())
			}
			advance, inputs := pick(r, 0, 7, 20), someInputs(r)
			if r.Intn(3) == 0 {
				refuses(t, p.Start(), x.Start())
			}
			got, why := p.Entry(advance, inputs)
			want, whether := x.Entry(advance, inputs)
			if !sameReport(got, want) || why != whether || !slices.Equal(cellsOf(t, p), x.Cells()) {
				t.Fatal(got, want, why, whether)
			}
		}
	}
	if forces < 5000 {
		t.Error(forces)
	}
}

// P26.11: Load of Save, into a panel over the same image that is not running, makes the kept cells what they were; others stay.
func TestKept(t *testing.T) {
	r := rand.New(rand.NewSource(4))
	done, strayed := 0, 0
	for range 3000 {
		m := imageOf(t, someJobs(r)...)
		p, q := panelOf(t, m), panelOf(t, m)
		for _, x := range []struct {
			to interface {
				enters
				Start() api.Errno
			}
			n int
		}{{p, 6}, {q, r.Intn(6)}} {
			if r.Intn(4) > 0 {
				must(t, x.to.Start())
			}
			for range x.n {
				x.to.Entry(20, someInputs(r))
			}
		}
		q.Stop()
		want, all := cellsOf(t, q), cellsOf(t, p)
		is := api.OK
		for i, c := range m.Cells {
			if c.Keep {
				want[i] = all[i]
			}
			if i == cellLevel && all[i] == number(101) {
				is, want = api.ErrKept, cellsOf(t, q)
				strayed++
				break
			}
		}
		refuses(t, q.Load(p.Save()), is)
		if got := cellsOf(t, q); !slices.Equal(got, want) {
			t.Fatal(got, want)
		}
		if is == api.OK {
			done++
		}
	}
	if done < 1000 || strayed < 100 {
		t.Error(done, strayed)
	}
}

// P26.12: behind Down of the leader the other side has the cells that the leader had, and answers each further entry as that one would have; entries with an error among them.
func TestTakesOver(t *testing.T) {
	r := rand.New(rand.NewSource(5))
	errors, faults := 0, 0
	for range 3000 {
		m := imageOf(t, someJobs(r)...)
		x, one := twinOf(t, m), resourceOf(t, m)
		down := r.Intn(30)
		for i := range 30 {
			if i == down {
				ahead := slices.Clone(x.Cells(0))
				must(t, x.Down(0))
				if !slices.Equal(x.Cells(1), ahead) || x.Leads() != 1 {
					t.Fatal(x.Cells(1), ahead)
				}
			}
			switch r.Intn(8) {
			case 0:
				x.Follow(r.Intn(9) - 1)
			case 1:
				refuses(t, x.Start(), one.Start())
			}
			advance, inputs := pick(r, 0, 1, 7, 20, 20, -1), someInputs(r)
			got, why := x.Entry(advance, inputs)
			want, whether := one.Entry(advance, inputs)
			if !sameReport(got, want) || why != whether || !slices.Equal(x.Cells(x.Leads()), one.Cells()) {
				t.Fatal(i, down, got, want, why, whether)
			}
			if why != api.OK {
				errors++
			}
			if got.Fault != 0 {
				faults++
			}
		}
	}
	if errors < 5000 || faults < 300 {
		t.Error(errors, faults)
	}
}
