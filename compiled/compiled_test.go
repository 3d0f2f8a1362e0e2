package compiled

import (
	"slices"
	"testing"

	"relay/api"
	"relay/bound"
)

// mixed is codes of which one is in its shorter form.
func mixed(x *plant, one int) []api.Flat {
	l := slices.Clone(x.flats)
	l[one] = x.short[one]
	return l
}

// P21.6, P22.5: a run of instructions comes to the cells and the fault that the trees mean, within its bounds. P18.5: so does one with a code, or all, made shorter, and in no more steps.
func TestAsItMeans(t *testing.T) {
	faults, fewer, deepest := map[int]int{}, 0, 0
	each(t, 1000, func(x *plant) {
		for _, i := range x.l {
			mem, now := x.mem, 0
			for range 3 {
				m := x.moment(i, now, mem)
				before := x.steps(t, x.flats, m)
				for _, codes := range [][]api.Flat{mixed(x, x.r.Intn(len(x.flats))), x.short} {
					steps := x.steps(t, codes, m)
					if steps > before {
						t.Fatal(x.p.Pous[i.pou].Text, steps, "not", before)
					}
					if steps < before {
						fewer++
					}
					before = steps
				}
				faults[m.fault]++
				if m.fault != 0 {
					break
				}
				mem, now = m.after, now+x.r.Intn(1e9)
			}
		}
		deepest += x.deepest
	})
	if fewer < 500 || deepest < 500 {
		t.Error(fewer, deepest)
	}
	for f := api.FaultNone; f <= api.FaultConvert; f++ {
		if faults[f] < 5 {
			t.Error(f, faults)
		}
	}
}

// most is the bound of a code.
func most(t *testing.T, codes []api.Flat, fn int) int {
	t.Helper()
	n, at, why := bound.Of(codes, fn)
	if why != api.OK {
		t.Fatal(fn, at, why)
	}
	return n
}

// P18.6: the bound of a code is no more behind than ahead.
func TestNoMoreAtMost(t *testing.T) {
	fewer := 0
	each(t, 500, func(x *plant) {
		for fn := range x.flats {
			ahead, behind, all := most(t, x.flats, fn), most(t, mixed(x, fn), fn), most(t, x.short, fn)
			if behind > ahead || all > behind {
				t.Fatal(x.p.Pous[fn].Text, ahead, behind, all)
			}
			if behind < ahead {
				fewer++
			}
		}
	})
	if fewer < 500 {
		t.Error(fewer)
	}
}
