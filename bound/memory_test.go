package bound_test

import (
	"math/rand"
	"reflect"
	"slices"
	"testing"

	"relay/api"
	"relay/bound"
)

// roomy is a copy of a list, with something in the room behind it.
func roomy[T any](l []T, behind T) []T {
	return append(append(make([]T, 0, len(l)+2), l...), behind, behind)[:len(l)]
}

// roomyImage is a copy of an image whose lists have room behind them.
func roomyImage(m api.Image) api.Image {
	m.Codes, m.Jobs = roomy(m.Codes, line(9)), roomy(m.Jobs, job(0))
	for i := range m.Codes {
		f := &m.Codes[i]
		f.Ops, f.Loops = roomy(f.Ops, api.Op{Code: api.IrCall, B: 99}), roomy(f.Loops, api.Loop{Head: -1})
	}
	for i := range m.Jobs {
		j := &m.Jobs[i]
		j.Codes, j.Bases = roomy(j.Codes, -5), roomy(j.Bases, -6)
	}
	return m
}

// unfolded is a copy of an image whose lists go on to the ends of their rooms.
func unfolded(m api.Image) api.Image {
	m.Codes, m.Jobs = slices.Clone(m.Codes[:cap(m.Codes)]), slices.Clone(m.Jobs[:cap(m.Jobs)])
	for i := range m.Codes {
		f := &m.Codes[i]
		f.Ops, f.Loops = f.Ops[:cap(f.Ops)], f.Loops[:cap(f.Loops)]
	}
	for i := range m.Jobs {
		j := &m.Jobs[i]
		j.Codes, j.Bases = j.Codes[:cap(j.Codes)], j.Bases[:cap(j.Bases)]
	}
	return m
}

// someImage is an image by chance; some of its tasks have a fault.
func someImage(r *rand.Rand) api.Image {
	m := api.Image{Codes: someCodes(r)}
	if r.Intn(2) == 0 {
		m.Codes = someWeb(r)
	}
	for range r.Intn(4) {
		var l []int
		for range r.Intn(3) {
			l = append(l, r.Intn(len(m.Codes)))
		}
		m.Jobs = append(m.Jobs, job(l...))
	}
	return m
}

// lists is all lists of numbers that calls answer of an image: of Calls, of Order, and of each task of Jobs.
func lists(m api.Image, fn int) [][]int {
	order, _ := bound.Order(m.Codes)
	l := [][]int{bound.Calls(m.Codes[fn]), order}
	jobs, _, _ := bound.Jobs(m)
	for _, j := range jobs {
		l = append(l, j.Codes, j.Bases)
	}
	return l
}

// overwrite fills a list and the room behind it.
func overwrite(l []int) {
	for i := range l[:cap(l)] {
		l[:cap(l)][i] = -99
	}
}

// What is handed in stays, the room behind it too; each list of an answer is memory of its own; and answers hang on the arguments alone.
func TestMemory(t *testing.T) {
	r := rand.New(rand.NewSource(7))
	for range 3000 {
		m := someImage(r)
		given, kept := roomyImage(m), roomyImage(m)
		fn := r.Intn(len(m.Codes))
		of(given.Codes, fn)
		depth(given.Codes, fn)
		got, want := lists(given, fn), lists(kept, fn)
		if !reflect.DeepEqual(unfolded(given), unfolded(kept)) || !slices.EqualFunc(got, want, slices.Equal) {
			t.Fatal(given, kept, got, want)
		}
		for _, j := range given.Jobs {
			overwrite(j.Codes)
			overwrite(j.Bases)
		}
		for i := range got {
			// Those ahead were overwritten.
			if !slices.Equal(got[i], want[i]) {
				t.Fatal(i, got[i], want[i])
			}
			overwrite(got[i])
		}
	}
}
