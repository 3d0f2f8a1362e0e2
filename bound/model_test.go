package bound_test

import (
	"math/rand"
	"slices"
	"testing"

	"relay/api"
	"relay/bound"
	"relay/ir"
	"relay/listing"
)

// modelCalls is the numbers that a code calls.
func modelCalls(f api.Flat) []int {
	calls := map[int]int{}
	for _, o := range f.Ops {
		if o.Code == api.IrCall {
			calls[o.B]++
		}
	}
	var l []int
	for n := range calls {
		l = append(l, n)
	}
	slices.Sort(l)
	return l
}

// belonging is all numbers to which calls lead from some on, these included.
func belonging(codes []api.Flat, from ...int) []int {
	for i := 0; i < len(from); i++ {
		if from[i] < 0 || from[i] >= len(codes) {
			continue
		}
		for _, c := range modelCalls(codes[from[i]]) {
			if !slices.Contains(from, c) {
				from = append(from, c)
			}
		}
	}
	slices.Sort(from)
	return slices.Compact(from)
}

// callsItself tells whether a code does so, over others too.
func callsItself(codes []api.Flat, fn int) bool {
	calls := modelCalls(codes[fn])
	return len(calls) > 0 && slices.Contains(belonging(codes, calls...), fn)
}

func isCode(codes []api.Flat, n int) bool { return n >= 0 && n < len(codes) }

func modelDepth(codes []api.Flat, fn int) told {
	if !isCode(codes, fn) {
		return told{0, fn, api.ErrArg}
	}
	all := belonging(codes, fn)
	for _, c := range all {
		if isCode(codes, c) && slices.ContainsFunc(modelCalls(codes[c]), func(n int) bool { return !isCode(codes, n) }) {
			return told{0, c, api.ErrArg}
		}
	}
	for _, c := range all {
		if callsItself(codes, c) {
			return told{0, c, api.ErrCycle}
		}
	}
	return told{runsWithin(codes, fn), 0, api.OK}
}

func runsWithin(codes []api.Flat, fn int) int {
	n := 0
	for _, c := range modelCalls(codes[fn]) {
		n = max(n, runsWithin(codes, c))
	}
	return n + 1
}

func modelOrder(codes []api.Flat) ([]int, api.Errno) {
	for _, f := range codes {
		if slices.ContainsFunc(modelCalls(f), func(n int) bool { return !isCode(codes, n) }) {
			return nil, api.ErrArg
		}
	}
	var l []int
again:
	for len(l) < len(codes) {
		for i, f := range codes {
			if !slices.Contains(l, i) && !slices.ContainsFunc(modelCalls(f), func(n int) bool { return !slices.Contains(l, n) }) {
				l = append(l, i)
				continue again
			}
		}
		return nil, api.ErrCycle
	}
	return l, api.OK
}

// reckoner reckons a code sentence by sentence.
type reckoner struct {
	codes []api.Flat
	api.Flat
	fars map[[2]int]int
}

// whole stands for the whole code, where a loop's number is asked.
const whole = -1

func newReckoner(codes []api.Flat, fn int) *reckoner {
	return &reckoner{codes, codes[fn], map[[2]int]int{}}
}

func (r *reckoner) has(l, place int) bool {
	return l == whole || r.Loops[l].Head <= place && place < r.Loops[l].End
}

// liesIn tells whether a loop lies in another one.
func (r *reckoner) liesIn(m, l int) bool {
	if l == whole || m == l {
		return m != l
	}
	a, b := r.Loops[m], r.Loops[l]
	if a.Head == b.Head && a.End == b.End {
		return m > l
	}
	return a.Head >= b.Head && a.End <= b.End
}

// canBe tells whether the code can be reckoned.
func (r *reckoner) canBe() bool {
	n := len(r.Ops)
	for i, l := range r.Loops {
		if l.Head < 0 || l.Head >= l.End || l.End > n || l.Times < 0 || l.Times > 65536 {
			return false
		}
		for j, m := range r.Loops {
			isApart := l.End <= m.Head || m.End <= l.Head
			if i != j && !isApart && !r.liesIn(i, j) && !r.liesIn(j, i) {
				return false
			}
		}
	}
	for at, o := range r.Ops {
		for _, to := range ir.Next(o, at) {
			if to < 0 || to >= n {
				return false
			}
			isHead := func(l api.Loop) bool { return l.Head == to && l.Head <= at && at < l.End }
			if to <= at && !slices.ContainsFunc(r.Loops, isHead) {
				return false
			}
		}
	}
	return n > 0
}

// outermost is the loop in l that begins at a place and lies in no other such one; whole, if there is none.
func (r *reckoner) outermost(at, l int) int {
	found := whole
	for m, x := range r.Loops {
		if x.Head == at && r.liesIn(m, l) && (found == whole || r.liesIn(found, m)) {
			found = m
		}
	}
	return found
}

func (r *reckoner) cost(at int) int {
	if o := r.Ops[at]; o.Code == api.IrCall {
		return 1 + newReckoner(r.codes, o.B).far(0, whole)
	}
	return 1
}

func (r *reckoner) far(at, l int) int {
	if l != whole && (!r.has(l, at) || at == r.Loops[l].Head) {
		return 0
	}
	key := [2]int{at, l}
	if n, is := r.fars[key]; is {
		return n
	}
	n := r.through(at, l)
	r.fars[key] = n
	return n
}

// through is how far it is from a place on, whether it is l's Head or not.
func (r *reckoner) through(at, l int) int {
	greatest := 0
	m := r.outermost(at, l)
	if m == whole {
		for _, next := range ir.Next(r.Ops[at], at) {
			greatest = max(greatest, r.far(next, l))
		}
		return r.cost(at) + greatest
	}
	for p, o := range r.Ops {
		for _, next := range ir.Next(o, p) {
			if r.has(m, p) && !r.has(m, next) {
				greatest = max(greatest, r.far(next, l))
			}
		}
	}
	return (r.Loops[m].Times+1)*r.once(m) + greatest
}

// once is the most instructions of one pass through a loop.
func (r *reckoner) once(m int) int { return r.through(r.Loops[m].Head, m) }

func modelOf(codes []api.Flat, fn int) told {
	if d := modelDepth(codes, fn); d.why != api.OK {
		return d
	}
	for _, c := range belonging(codes, fn) {
		if !newReckoner(codes, c).canBe() {
			return told{0, c, api.ErrCycle}
		}
	}
	n := newReckoner(codes, fn).far(0, whole)
	if n > api.MaxBound {
		return told{0, fn, api.ErrGreat}
	}
	return told{n, 0, api.OK}
}

// Codes that call one another: Calls, Order and Depth are what the chapter's sentences make of them.
func TestModelWebs(t *testing.T) {
	r := rand.New(rand.NewSource(1))
	errs := map[api.Errno]int{}
	for range 100000 {
		codes := someWeb(r)
		l, why := bound.Order(codes)
		want, other := modelOrder(codes)
		if !slices.Equal(l, want) || why != other {
			t.Fatal(codes, l, why, want, other)
		}
		for fn := -1; fn <= len(codes); fn++ {
			if got, want := depth(codes, fn), modelDepth(codes, fn); got != want {
				t.Fatal(codes, fn, got, want)
			}
		}
		fn := r.Intn(len(codes))
		if got, want := bound.Calls(codes[fn]), modelCalls(codes[fn]); !slices.Equal(got, want) {
			t.Fatal(codes[fn], got, want)
		}
		got := of(codes, fn)
		if want := modelOf(codes, fn); got != want {
			t.Fatal(codes, fn, got, want)
		}
		errs[got.why]++
	}
	if errs[api.OK] < 5000 || errs[api.ErrArg] < 5000 || errs[api.ErrCycle] < 5000 {
		t.Error(errs)
	}
}

// Codes with loops: Of is what the chapter's sentences make of them.
func TestModelLoops(t *testing.T) {
	r := rand.New(rand.NewSource(2))
	errs, long, loops := map[api.Errno]int{}, 0, 0
	for range 150000 {
		codes := someCodes(r)
		fn := r.Intn(len(codes))
		got := of(codes, fn)
		if want := modelOf(codes, fn); got != want {
			for _, f := range codes {
				t.Log(listing.Text(f))
			}
			t.Fatal(fn, got, want)
		}
		errs[got.why]++
		if got.n > 100 {
			long++
		}
		if got.why == api.OK && len(codes[fn].Loops) > 3 {
			loops++
		}
	}
	if errs[api.OK] < 50000 || errs[api.ErrCycle] < 10000 || long < 5000 || loops < 10000 {
		t.Error(errs, long, loops)
	}
}
