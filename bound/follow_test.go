package bound_test

import (
	"fmt"
	"math/rand"
	"slices"
	"testing"

	"relay/api"
	"relay/bound"
	"relay/listing"
	"relay/vm"
)

// P22.6: of a code without loops and calls, in which no instruction leads to two places, Of is how many a run takes.
func TestStraight(t *testing.T) {
	r := rand.New(rand.NewSource(3))
	for range 20000 {
		n := 1 + r.Intn(20)
		f := line(n)
		f.Regs = 1
		for at := range n - 1 {
			switch r.Intn(5) {
			case 0:
				f.Ops[at] = api.Op{Code: api.IrJump, B: at + 1 + r.Intn(n-at-1)}
			case 1:
				f.Ops[at] = api.Op{Code: api.IrMove}
			case 2:
				f.Ops[at].Code = pick(r, api.IrConst, api.IrConst, api.IrReturn)
			}
		}
		codes := []api.Flat{f}
		want := of(codes, 0)
		_, steps, fault := vm.Run(codes, 0, 0, 0, nil, nil, 1000)
		if fault != 0 || want.why != api.OK || steps != want.n {
			t.Fatal(listing.Text(f), steps, fault, want)
		}
	}
}

// comes tells whether a way from place 0 comes to a call of a code.
func comes(f api.Flat, fn int) bool {
	open, seen := []int{0}, map[int]int{}
	for len(open) > 0 {
		at := open[0]
		open = open[1:]
		if seen[at]++; seen[at] > 1 {
			continue
		}
		switch o := f.Ops[at]; o.Code {
		case api.IrCall:
			if o.B == fn {
				return true
			}
			open = append(open, at+1)
		case api.IrJump:
			open = append(open, o.B)
		case api.IrUnless:
			open = append(open, at+1, o.B)
		case api.IrReturn, api.IrFault:
		default:
			open = append(open, at+1)
		}
	}
	return false
}

// P22.7: Depth of what a code calls is below its own, and so is Of, if a way comes to the call.
func TestOfWhatItCalls(t *testing.T) {
	r := rand.New(rand.NewSource(4))
	found, deaf := 0, 0
	for range 60000 {
		codes := someCodes(r)
		for fn, f := range codes {
			mine, deep := of(codes, fn), depth(codes, fn)
			if mine.why != api.OK {
				continue
			}
			for _, c := range bound.Calls(f) {
				if d := depth(codes, c); d.why != api.OK || d.n >= deep.n {
					t.Fatal(fn, c, d, deep)
				}
				if !comes(f, c) {
					deaf++
					continue
				}
				found++
				if x := of(codes, c); x.why != api.OK || x.n >= mine.n {
					t.Fatal(fn, c, x, mine)
				}
			}
		}
	}
	if found < 3000 || deaf < 100 {
		t.Error(found, deaf)
	}
}

// P22.8: with Times one greater of one loop that lies in no other one, Of is no less, and greater by at most once of it.
func TestOnceMore(t *testing.T) {
	r := rand.New(rand.NewSource(5))
	more, same := 0, 0
	for range 60000 {
		codes := []api.Flat{someCode(r, 0)}
		before := of(codes, 0)
		if before.why != api.OK {
			continue
		}
		x := newReckoner(codes, 0)
		for l := range x.Loops {
			isInner := false
			for m := range x.Loops {
				isInner = isInner || x.liesIn(l, m)
			}
			if isInner {
				continue
			}
			f := codes[0]
			f.Loops = slices.Clone(f.Loops)
			f.Loops[l].Times++
			after := of([]api.Flat{f}, 0)
			if after.why != api.OK || after.n < before.n || after.n > before.n+x.once(l) {
				t.Fatal(listing.Text(codes[0]), l, before, after, x.once(l))
			}
			if after.n > before.n {
				more++
			} else {
				same++
			}
		}
	}
	if more < 10000 || same < 1000 {
		t.Error(more, same)
	}
}

// P22.9: a code that does not belong to fn has no part in its Of and Depth.
func TestWhatIsNotCalled(t *testing.T) {
	r := rand.New(rand.NewSource(6))
	found := 0
	for range 30000 {
		codes := someCodes(r)
		if r.Intn(2) == 0 {
			codes = someWeb(r)
		}
		fn := r.Intn(len(codes))
		mine, deep := of(codes, fn), depth(codes, fn)
		all := belonging(codes, fn)
		for i := range codes {
			if slices.Contains(all, i) {
				continue
			}
			found++
			other := slices.Clone(codes)
			other[i] = pick(r, api.Flat{}, callers("0")[0], callers("99")[0], line(9), api.Flat{Ops: []api.Op{{Code: api.IrJump}}}, callers(fmt.Sprint(i))[0])
			if got := of(other, fn); got != mine {
				t.Fatal(fn, i, got, mine)
			}
			if got := depth(other, fn); got != deep {
				t.Fatal(fn, i, got, deep)
			}
		}
		// Nor has one behind the last, unless it is called.
		if why := mine.why; why != api.ErrArg {
			if got := of(append(slices.Clone(codes), line(3)), fn); got != mine {
				t.Fatal(fn, got, mine)
			}
		}
	}
	if found < 10000 {
		t.Error(found)
	}
}
