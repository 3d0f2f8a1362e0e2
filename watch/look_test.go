package watch_test

import (
	"slices"
	"testing"

	"relay/api"
)

// P26.4: cells' values, in the order that they are asked in; none, if one is no cell's number.
func TestLook(t *testing.T) {
	p := started(t, task("A", 10, 1, countsSum))
	entry(t, p, 10)
	l, why := p.Look([]int{cellText, cellSum, cellIn, cellSum, cellRef})
	if want := []api.Value{text("ab"), number(0), no, number(0), whole(api.KRef, 0)}; why != api.OK || !slices.Equal(l, want) {
		t.Error(l, why)
	}
	for _, none := range [][]int{nil, {}} {
		if l, why := p.Look(none); len(l) != 0 || why != api.OK {
			t.Error(l, why)
		}
	}
	for _, cell := range []int{-1, numCells, -1 << 63, 1<<63 - 1} {
		for _, cells := range [][]int{{cell}, {cellSum, cell}, {cell, cellSum}} {
			if l, why := p.Look(cells); len(l) != 0 || why != api.ErrArg {
				t.Error(l, why)
			}
		}
	}
	if l, why := panelOf(t, api.Image{Name: "M"}).Look([]int{0}); len(l) != 0 || why != api.ErrArg {
		t.Error(l, why)
	}
}

// changed checks what Changed tells, and that right behind it it tells none (P26.13).
func changed(t *testing.T, p interface{ Changed() []int }, want ...int) {
	t.Helper()
	if got := p.Changed(); !slices.Equal(got, want) {
		t.Error(got, "not", want)
	}
	if got := p.Changed(); len(got) > 0 {
		t.Error(got)
	}
}

// P26.4, P26.13: cells whose value is another one than when Changed was called last, rising; at first, than New's.
func TestChanged(t *testing.T) {
	p := panelOf(t, usual(t))
	changed(t, p)
	must(t, p.Start())
	changed(t, p)
	entry(t, p, 0, at("%IW1", number(8)))
	changed(t, p, cellWord, cellOut, cellSum, cellKept, cellText, cellPlain)
	entry(t, p, 10, at("%IX0.0", yes), at("%IW1", number(8)))
	changed(t, p, cellIn, cellOut, cellSum, cellKept)
	entry(t, p, 1)
	changed(t, p)
	must(t, p.Force(cellReal, whole(api.KLreal, 0)))
	must(t, p.Force(cellMemory, number(3)))
	changed(t, p, cellReal)
	// Floats are told apart by their bits.
	must(t, p.Force(cellReal, whole(api.KLreal, -1<<63)))
	changed(t, p, cellReal)
	must(t, p.Free(cellReal))
	must(t, p.Stop())
	changed(t, p)
	b := p.Save()
	must(t, p.Reset(true))
	changed(t, p, cellIn, cellWord, cellSum, cellPlain)
	must(t, p.Reset(false))
	changed(t, p, cellKept, cellText, cellReal)
	must(t, p.Load(b))
	changed(t, p, cellKept, cellText, cellReal)
	must(t, p.Load(b))
	changed(t, p)
}

// P26.4: what has become another value and the old one again has not changed; what was changed ahead of the first call has.
func TestChangedThereAndBack(t *testing.T) {
	p := panelOf(t, numbered(4, 0))
	must(t, p.Force(2, number(9)))
	must(t, p.Force(0, number(9)))
	must(t, p.Force(2, number(2)))
	changed(t, p, 0)
	must(t, p.Force(0, number(5)))
	refuses(t, p.Force(1, yes), api.ErrInput)
	refuses(t, p.Force(4, number(1)), api.ErrArg)
	must(t, p.Force(0, number(9)))
	changed(t, p)
}

// P26.4: references that are others count.
func TestChangedReferences(t *testing.T) {
	p := started(t, task("A", 10, 1, refers))
	entry(t, p, 0)
	changed(t, p, cellRef)
	has(t, p, cellRef, whole(api.KRef, cellSum))
}
