package alloc_test

import (
	"fmt"
	"math/rand"
	"reflect"
	"slices"
	"testing"

	"relay/alloc"
	"relay/api"
	"relay/ir"
	"relay/listing"
)

// Codes by hand become what the chapter's sentences make of them.
func TestModelByHand(t *testing.T) {
	r := rand.New(rand.NewSource(1))
	slots := map[int]int{}
	for range 20000 {
		f := some(r, 24, someNames(r)...)
		if l := live(t, f); !sameLists(l, modelLive(f)) {
			t.Fatal(listing.Text(f), l)
		}
		regs := 4 + r.Intn(5)
		g, want := few(t, f, regs), modelAlloc(f, regs)
		if !same(g, want) {
			t.Fatalf("%s\n got %s\nwant %s", listing.Text(f), listing.Text(g), listing.Text(want))
		}
		slots[min(g.Slots, 5)]++
	}
	for n := range 6 {
		if slots[n] < 500 {
			t.Error(n, slots)
		}
	}
}

// So do codes that ir and opt make.
func TestModel(t *testing.T) {
	n, waits := 0, 0
	each(t, 60, func(r *rand.Rand, f api.Flat) {
		if len(f.Ops) > 150 {
			return
		}
		if l := live(t, f); !sameLists(l, modelLive(f)) {
			t.Fatal(listing.Text(f), l)
		}
		regs := 4 + r.Intn(5)
		g, want := few(t, f, regs), modelAlloc(f, regs)
		if !same(g, want) {
			t.Fatalf("%s\n got %s\nwant %s", listing.Text(f), listing.Text(g), listing.Text(want))
		}
		n++
		if g.Slots > 0 {
			waits++
		}
	})
	if n < 200 || waits < 100 {
		t.Error(n, waits)
	}
}

// stay is where a register is through a code, as its instructions have come to name it: a place, or a slot behind the places.
func stay(t *testing.T, f, g api.Flat) map[int]int {
	t.Helper()
	homes, at := map[int]int{}, 0
	tell := func(reg, home int) {
		if was, is := homes[reg]; is && was != home {
			t.Fatal(listing.Text(f), listing.Text(g), reg, was, home)
		}
		homes[reg] = home
	}
	slot := func(o api.Op) int { return api.MaxRegs + o.B }
	for _, o := range f.Ops {
		filled := map[int]int{}
		for ; g.Ops[at].Code == api.IrFill; at++ {
			filled[g.Ops[at].A] = slot(g.Ops[at])
		}
		now := g.Ops[at]
		at++
		for i, reg := range ir.Uses(o) {
			place := ir.Uses(now)[i]
			if from, is := filled[place]; is {
				place = from
			}
			tell(reg, place)
		}
		reg := ir.Gives(o)
		switch {
		case at < len(g.Ops) && g.Ops[at].Code == api.IrSpill:
			tell(reg, slot(g.Ops[at]))
			at++
		case reg >= 0:
			tell(reg, now.A)
		}
	}
	if at != len(g.Ops) {
		t.Fatal(listing.Text(f), listing.Text(g))
	}
	return homes
}

// P19.3: two registers with one place (or one slot) are not both live behind any instruction that sets one of them.
func TestNoTwo(t *testing.T) {
	shared := 0
	look := func(r *rand.Rand, f api.Flat) {
		g := few(t, f, 4+r.Intn(5))
		homes := stay(t, f, g)
		behind := live(t, f)
		for at, o := range f.Ops {
			reg := ir.Gives(o)
			if reg < 0 {
				continue
			}
			for _, other := range behind[at] {
				if other != reg && homes[other] == homes[reg] {
					t.Fatal(listing.Text(f), listing.Text(g), at, reg, other)
				}
			}
		}
		places := map[int]int{}
		for _, home := range homes {
			if places[home]++; places[home] == 2 {
				shared++
			}
			if home >= g.Regs-3 && home < api.MaxRegs || home >= api.MaxRegs+g.Slots {
				t.Fatal(listing.Text(f), listing.Text(g), home)
			}
		}
	}
	r := rand.New(rand.NewSource(2))
	for range 10000 {
		look(r, some(r, 30, someNames(r)...))
	}
	each(t, 60, look)
	if shared < 2000 {
		t.Error(shared)
	}
}

// event is an instruction that was done: its Code and the fields that are no registers, and which steps set what it reads; -1: none did.
type event struct {
	o     api.Op
	reads [2]int
}

// trace is what a code does, step by step, where the way at each IrUnless is chosen by way.
func trace(f api.Flat, way func() bool, most int) []event {
	regs, slots := map[int]int{}, map[int]int{}
	got := func(l map[int]int, n int) int {
		if step, is := l[n]; is {
			return step
		}
		return -1
	}
	var l []event
	for at := 0; len(l) < most; {
		o := f.Ops[at]
		switch o.Code {
		case api.IrFill:
			regs[o.A] = got(slots, o.B)
			at++
			continue
		case api.IrSpill:
			slots[o.B] = got(regs, o.A)
			at++
			continue
		}
		e := event{o: plain(o)}
		// Which of its fields are registers plays no part: those that it reads are told in order, twice, if it has one twice.
		uses := ir.Uses(o)
		for i := range e.reads {
			if len(uses) > 0 {
				e.reads[i] = got(regs, uses[min(i, len(uses)-1)])
			}
		}
		if reg := ir.Gives(o); reg >= 0 {
			regs[reg] = len(l)
		}
		l = append(l, e)
		switch next := ir.Next(o, at); {
		case len(next) == 0:
			return l
		case o.Code == api.IrUnless && way():
			at = o.B
		case o.Code == api.IrUnless:
			at++
		default:
			at = next[0]
		}
	}
	return l
}

// plain is an instruction without its registers and its place.
func plain(o api.Op) api.Op {
	switch o.Code {
	case api.IrJump, api.IrUnless:
		return api.Op{Code: o.Code}
	case api.IrDo:
		o.A, o.B, o.C = 0, 0, 0
	case api.IrMove, api.IrTurn, api.IrConv:
		o.A, o.B = 0, 0
	case api.IrLoadX, api.IrStoreX, api.IrRefX:
		o.A, o.D = 0, 0
	case api.IrFault, api.IrCall, api.IrBlock, api.IrReturn:
	default:
		o.A = 0
	}
	return o
}

// P19.4: whatever way a run takes, each instruction reads what was set by the same step as ahead, and all else of it stays.
func TestDoesTheSame(t *testing.T) {
	unset, filled := 0, 0
	look := func(r *rand.Rand, f api.Flat) {
		g := few(t, f, 4+r.Intn(5))
		for range 3 {
			seed := r.Int63()
			way := func() func() bool {
				r := rand.New(rand.NewSource(seed))
				return func() bool { return r.Intn(2) == 0 }
			}
			want := trace(f, way(), 200)
			if got := trace(g, way(), 200); !slices.Equal(got, want) {
				t.Fatalf("%s\n%s\n got %v\nwant %v", listing.Text(f), listing.Text(g), got, want)
			}
			for _, e := range want {
				if e.reads[0] < 0 {
					unset++
				}
			}
		}
		if g.Slots > 0 {
			filled++
		}
	}
	r := rand.New(rand.NewSource(3))
	for range 8000 {
		look(r, some(r, 40, someNames(r)...))
	}
	each(t, 40, look)
	// Codes by hand read registers that nothing set, too.
	if unset < 4000 || filled < 4000 {
		t.Error(unset, filled)
	}
}

// P19.5: a code with at most regs - 3 registers needs no slot, and no instruction more.
func TestEnough(t *testing.T) {
	r := rand.New(rand.NewSource(4))
	for range 20000 {
		regs := 4 + r.Intn(5)
		f := some(r, 40, names(1+r.Intn(regs-3))...)
		f.Regs = min(f.Regs, regs-3)
		if g := few(t, f, regs); g.Slots != 0 || len(g.Ops) != len(f.Ops) || !slices.Equal(g.Loops, f.Loops) || g.Regs != regs {
			t.Fatal(listing.Text(f), listing.Text(g))
		}
	}
	for regs := 4; regs <= api.MaxRegs; regs++ {
		if g := few(t, crowd(regs-3), regs); g.Slots != 0 || len(g.Ops) != 2*(regs-3)+1 {
			t.Error(regs, g)
		}
		if g := few(t, crowd(regs-2), regs); g.Slots != 1 || len(g.Ops) != 2*(regs-2)+3 {
			t.Error(regs, g)
		}
	}
}

// What is handed in stays, spare room too; what is answered is memory of its own, each list for itself, and the same each time.
func TestMemory(t *testing.T) {
	look := func(r *rand.Rand, f api.Flat) {
		f.Ops = append(slices.Clone(f.Ops), api.Op{Code: api.IrMove, A: 77})[:len(f.Ops)]
		f.Loops = append(slices.Clone(f.Loops), api.Loop{Times: 77})[:len(f.Loops)]
		before := fmt.Sprint(f, f.Ops[:cap(f.Ops)], f.Loops[:cap(f.Loops)])
		regs := 4 + r.Intn(5)
		a, b := few(t, f, regs), few(t, f, regs)
		l, m := live(t, f), live(t, f)
		if !reflect.DeepEqual(a, b) || !reflect.DeepEqual(l, m) {
			t.Fatal(listing.Text(f))
		}
		for i := range a.Ops[:cap(a.Ops)] {
			a.Ops[:cap(a.Ops)][i] = api.Op{A: 99}
		}
		for i := range a.Loops[:cap(a.Loops)] {
			a.Loops[:cap(a.Loops)][i] = api.Loop{Times: 99}
		}
		for i := range l {
			l[i] = l[i][:cap(l[i])]
			for k := range l[i] {
				l[i][k] = i
			}
		}
		for i := range l {
			if slices.ContainsFunc(l[i], func(n int) bool { return n != i }) {
				t.Fatal("lists are shared")
			}
		}
		if fmt.Sprint(f, f.Ops[:cap(f.Ops)], f.Loops[:cap(f.Loops)]) != before || !same(b, few(t, f, regs)) || !sameLists(m, live(t, f)) {
			t.Fatal("shared")
		}
	}
	r := rand.New(rand.NewSource(5))
	for range 3000 {
		look(r, some(r, 20, someNames(r)...))
	}
	each(t, 10, look)
}

// Whatever numbers a code has, the calls end.
func TestAnyNumbers(t *testing.T) {
	r := rand.New(rand.NewSource(6))
	refused, took := 0, 0
	for range 50000 {
		f := some(r, 14, names(6)...)
		for range 1 + r.Intn(3) {
			o := &f.Ops[r.Intn(len(f.Ops))]
			fields := []*int{&o.Code, &o.A, &o.B, &o.C, &o.D, &o.Lo, &o.Hi, &f.Regs, &f.Slots}
			for i := range f.Loops {
				fields = append(fields, &f.Loops[i].Head, &f.Loops[i].End, &f.Loops[i].Times)
			}
			*pick(r, fields...) = pick(r, -1<<63, -1, 0, 1, 2, 3, 7, 1<<16, 1<<40, 1<<63-1)
		}
		l, why := alloc.Live(f)
		g, other := alloc.Alloc(f, 4+r.Intn(5))
		switch {
		case why == api.OK && other == api.OK:
			took++
			if !sameLists(l, modelLive(f)) || !same(g, modelAlloc(f, g.Regs)) {
				t.Fatal(listing.Text(f), listing.Text(g))
			}
		case why == api.ErrArg && other == api.ErrArg && l == nil && same(g, api.Flat{}):
			refused++
		default:
			t.Fatal(why, other)
		}
	}
	if refused < 5000 || took < 5000 {
		t.Error(refused, took)
	}
}

// Codes as long as may be, over as many registers: rows, and rings in which all registers live everywhere.
func TestLargest(t *testing.T) {
	row := api.Flat{Regs: 1 << 16}
	for i := range api.MaxCode - 1 {
		row.Ops = append(row.Ops, api.Op{Code: api.IrStoreX, A: 2 * i, D: 2*i + 1})
	}
	for _, last := range []int{api.IrReturn, api.IrJump} {
		f := row
		f.Ops = append(slices.Clone(row.Ops), api.Op{Code: last})
		if g, why := alloc.Alloc(f, 8); why != api.ErrFull || !same(g, api.Flat{}) {
			t.Error(last, why)
		}
	}
	// A way that goes back from the last instruction to the first, jump by jump.
	back := api.Flat{Regs: 1 << 16, Ops: []api.Op{{Code: api.IrJump, B: api.MaxCode - 1}, {Code: api.IrArg, A: 1<<16 - 1}, {Code: api.IrReturn}}}
	for i := 3; i < api.MaxCode; i++ {
		back.Ops = append(back.Ops, api.Op{Code: api.IrJump, B: i - 1})
	}
	back.Ops[3].B = 1
	l := live(t, back)
	for at := range l {
		if want := at == 0 || at > 2; want != slices.Equal(l[at], []int{1<<16 - 1}) {
			t.Fatal(at, l[at])
		}
	}
	// The same, with instructions that read other registers between the jumps.
	zigzag := api.Flat{Regs: 1 << 16, Ops: []api.Op{{Code: api.IrJump, B: api.MaxCode - 3}}}
	for i := 1; i < api.MaxCode-2; i += 2 {
		zigzag.Ops = append(zigzag.Ops, api.Op{Code: api.IrStoreX, A: i, D: 40000 + i}, api.Op{Code: api.IrJump, B: max(i-2, 0)})
	}
	zigzag.Ops = append(zigzag.Ops, api.Op{Code: api.IrReturn})
	if _, why := alloc.Alloc(zigzag, 8); why != api.ErrFull {
		t.Error(why)
	}
	if g := few(t, back, 4); g.Slots != 0 || len(g.Ops) != api.MaxCode || g.Ops[1].A != 0 {
		t.Error(g.Slots, len(g.Ops))
	}
}
