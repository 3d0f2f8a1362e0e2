package compiled

import (
	"slices"
	"testing"

	"relay/api"
	"relay/listing"
	"relay/meaning"
	"relay/opt"
)

const unbounded = 1 << 40

// mixed is codes of which one is in its shorter form.
func mixed(x *plant, one int) []api.Flat {
	l := slices.Clone(x.flats)
	l[one] = x.short[one]
	return l
}

// A run of instructions comes to the cells and the fault that the trees mean; P18.5: so does one with a code, or all, made shorter, and in no more steps. None takes more steps than its bound, and none reads a register that is not set.
func TestAsItMeans(t *testing.T) {
	faults, fewer := map[int]int{}, 0
	each(t, 1000, func(x *plant) {
		for _, i := range x.l {
			mem, now := x.mem, 0
			for range 3 {
				want, _, fault := meaning.Run(x.codes, i.pou, i.base, now, x.cells, mem, unbounded)
				before := -1
				for _, codes := range [][]api.Flat{x.flats, mixed(x, x.r.Intn(len(x.flats))), x.short} {
					after, steps, f, unset := run(codes, i.pou, i.base, now, x.cells, mem)
					if f != fault || !slices.Equal(after, want) || unset || steps > most(codes, i.pou) {
						t.Fatal(x.p.Pous[i.pou].Text, listing.Text(codes[i.pou]), f, "not", fault, unset, steps, most(codes, i.pou))
					}
					if before >= 0 && steps > before {
						t.Fatal(x.p.Pous[i.pou].Text, listing.Text(codes[i.pou]), steps, "not", before)
					}
					if before >= 0 && steps < before {
						fewer++
					}
					before = steps
				}
				faults[fault]++
				if fault != 0 {
					break
				}
				mem, now = want, now+x.r.Intn(1e9)
			}
		}
	})
	if fewer < 500 {
		t.Error(fewer)
	}
	for f := api.FaultNone; f <= api.FaultConvert; f++ {
		if faults[f] < 5 {
			t.Error(f, faults)
		}
	}
}

// P18.6: the bound of a code is no more behind than ahead.
func TestNoMoreAtMost(t *testing.T) {
	fewer := 0
	each(t, 500, func(x *plant) {
		for fn := range x.flats {
			ahead, behind, all := most(x.flats, fn), most(mixed(x, fn), fn), most(x.short, fn)
			if behind > ahead || all > behind {
				t.Fatal(x.p.Pous[fn].Text, ahead, behind, all)
			}
			if behind < ahead {
				fewer++
			}
		}
	})
	if fewer < 500 {
		t.Error(fewer)
	}
}

// The bound's examples of chapter 22.
func TestBoundOfExamples(t *testing.T) {
	x := &plant{}
	x.compile(t, []string{"PROGRAM p VAR i, n : INT; END_VAR FOR i := 1 TO 3 DO n := n + 1; END_FOR; END_PROGRAM PROGRAM q VAR a : INT; END_VAR a := a + 1; END_PROGRAM"}, func(l []api.Stmt) []api.Stmt { return l })
	if most(x.flats, 0) != 70 || most(x.flats, 1) != 5 {
		t.Error(most(x.flats, 0), most(x.flats, 1))
	}
	if f, why := opt.Flat(x.flats[1]); why != api.OK || len(f.Ops) != 5 {
		t.Error(f, why)
	}
}
