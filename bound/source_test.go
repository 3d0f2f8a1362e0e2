package bound_test

import (
	"math/rand"
	"strconv"
	"strings"
	"testing"

	"relay/api"
	"relay/bound"
	"relay/listing"
)

// read is the codes of listings.
func read(t *testing.T, texts ...string) []api.Flat {
	t.Helper()
	var l []api.Flat
	for _, text := range texts {
		f, is := listing.Read(text)
		if !is {
			t.Fatal(text)
		}
		l = append(l, f)
	}
	return l
}

// callers is codes that call those whose numbers stand in a text, in that order, and then end.
func callers(texts ...string) []api.Flat {
	var l []api.Flat
	for _, text := range texts {
		f := api.Flat{}
		for _, s := range strings.Fields(text) {
			n, _ := strconv.Atoi(s)
			f.Ops = append(f.Ops, api.Op{Code: api.IrCall, B: n, C: api.AreaThis})
		}
		f.Ops = append(f.Ops, api.Op{Code: api.IrReturn})
		l = append(l, f)
	}
	return l
}

// line is a code of so many instructions, one behind the other.
func line(n int) api.Flat {
	f := api.Flat{}
	for range n - 1 {
		f.Ops = append(f.Ops, api.Op{Code: api.IrConst})
	}
	f.Ops = append(f.Ops, api.Op{Code: api.IrReturn})
	return f
}

// great is a short code of a great bound, which is above 0.
func great(n int) api.Flat {
	const most = api.MaxTimes
	rest := (n-1)%most + 1
	f := line((n-rest)/most + 1)
	end := len(f.Ops) - 1
	f.Loops = []api.Loop{{Head: end, End: end + 1, Times: rest - 1}}
	if end > 0 {
		f.Loops = append(f.Loops, api.Loop{Head: 0, End: end, Times: most - 1})
	}
	return f
}

// told is a number, the code at fault, and an error.
type told struct {
	n, at int
	why   api.Errno
}

func of(codes []api.Flat, fn int) told {
	n, at, why := bound.Of(codes, fn)
	return told{n, at, why}
}

func depth(codes []api.Flat, fn int) told {
	n, at, why := bound.Depth(codes, fn)
	return told{n, at, why}
}

// pick is one of several things, by chance.
func pick[T any](r *rand.Rand, l ...T) T { return l[r.Intn(len(l))] }

// someWeb is codes by chance that call one another, and perhaps what is none.
func someWeb(r *rand.Rand) []api.Flat {
	n := 1 + r.Intn(8)
	astray, back := r.Intn(4) == 0, r.Intn(2) == 0
	var texts []string
	for i := range n {
		text := ""
		for range r.Intn(4) {
			to := r.Intn(n)
			if !back {
				// Some numbers are put round: rings are seldom met then.
				to = (i*5 + r.Intn(n)) % n
				if (to*3+1)%n >= (i*3+1)%n {
					continue
				}
			}
			if astray && r.Intn(6) == 0 {
				to = pick(r, -1, n, n+1, 1<<40)
			}
			text += " " + strconv.Itoa(to)
		}
		texts = append(texts, text)
	}
	return callers(texts...)
}

// someLoops is loops by chance within one another, over places from first up to end.
func someLoops(r *rand.Rand, first, end, deep int) []api.Loop {
	var l []api.Loop
	for first < end && deep > 0 && r.Intn(5) > 0 {
		head := first + r.Intn(end-first)
		to := head + 1 + r.Intn(end-head)
		if r.Intn(4) == 0 {
			head, to = first, end
		}
		l = append(l, api.Loop{Head: head, End: to, Times: r.Intn(4)})
		l = append(l, someLoops(r, head, to, deep-1)...)
		first = to
	}
	return l
}

// someCode is a code by chance, most of which can be reckoned: jumps ahead lead anywhere, those back to the Head of a loop around.
func someCode(r *rand.Rand, codes int) api.Flat {
	n := 2 + r.Intn(14)
	f := api.Flat{Loops: someLoops(r, 0, n, 4)}
	r.Shuffle(len(f.Loops), func(i, j int) { f.Loops[i], f.Loops[j] = f.Loops[j], f.Loops[i] })
	for at := range n {
		o := api.Op{Code: pick(r, api.IrConst, api.IrConst, api.IrJump, api.IrUnless, api.IrUnless, api.IrUnless, api.IrFault, api.IrReturn)}
		if codes > 0 && r.Intn(8) == 0 {
			o = api.Op{Code: api.IrCall, B: r.Intn(codes), C: api.AreaThis}
		}
		if at == n-1 {
			o.Code = pick(r, api.IrJump, api.IrReturn, api.IrFault)
		}
		if o.Code == api.IrJump || o.Code == api.IrUnless {
			o.B = at + 1 + r.Intn(max(n-at-1, 1))
			if back := headsAround(f.Loops, at); len(back) > 0 && (r.Intn(3) > 0 || o.B >= n) {
				o.B = pick(r, back...)
			}
			if o.B >= n {
				o = api.Op{Code: api.IrReturn}
			}
		}
		f.Ops = append(f.Ops, o)
	}
	return f
}

// headsAround is the Heads of the loops that have a place.
func headsAround(loops []api.Loop, at int) []int {
	var l []int
	for _, x := range loops {
		if x.Head <= at && at < x.End {
			l = append(l, x.Head)
		}
	}
	return l
}

// spoil changes a code by chance, so that it may not be reckoned any more.
func spoil(r *rand.Rand, f api.Flat) api.Flat {
	n := len(f.Ops)
	switch r.Intn(5) {
	case 0:
		f.Ops[r.Intn(n)] = api.Op{Code: pick(r, api.IrJump, api.IrUnless), B: r.Intn(n+3) - 1}
	case 1:
		f.Ops[n-1].Code = pick(r, api.IrConst, api.IrUnless, 0, 99)
	case 2:
		f.Loops = append(f.Loops, api.Loop{Head: r.Intn(n+1) - 1, End: r.Intn(n + 2), Times: 1})
	case 3:
		f.Loops = append(f.Loops, api.Loop{Head: 0, End: n, Times: pick(r, 0, -1, api.MaxTimes, api.MaxTimes+1)})
	case 4:
		if len(f.Loops) > 0 {
			f.Loops = f.Loops[1:]
		}
	}
	return f
}

// someCodes is codes by chance of which each calls those ahead of it alone.
func someCodes(r *rand.Rand) []api.Flat {
	var l []api.Flat
	for i := range 1 + r.Intn(4) {
		f := someCode(r, i)
		if r.Intn(6) == 0 {
			f = spoil(r, f)
		}
		l = append(l, f)
	}
	return l
}
