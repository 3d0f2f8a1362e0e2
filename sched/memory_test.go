package sched_test

import (
	"reflect"
	"slices"
	"sync"
	"testing"

	"relay/api"
	"relay/sched"
	"relay/value"
)

// roomy is a copy of a list, with something in the room behind it.
func roomy[T any](l []T, behind T) []T {
	return append(append(make([]T, 0, len(l)+2), l...), behind, behind)[:len(l)]
}

// roomyImage is an image all of whose lists have room behind them.
func roomyImage(t *testing.T) api.Image {
	t.Helper()
	m := imageOf(t, task("A", 10, 1, countsSum, sendsIn), onRise(task("B", 7, 0, countsHere), cellIn))
	m.Cells, m.Codes, m.Jobs = roomy(m.Cells, api.Cell{}), roomy(m.Codes, api.Flat{}), roomy(m.Jobs, api.Job{})
	for i := range m.Codes {
		m.Codes[i].Ops, m.Codes[i].Loops = roomy(m.Codes[i].Ops, api.Op{}), roomy(m.Codes[i].Loops, api.Loop{})
	}
	for i := range m.Jobs {
		m.Jobs[i].Codes, m.Jobs[i].Bases = roomy(m.Jobs[i].Codes, -1), roomy(m.Jobs[i].Bases, -1)
	}
	return m
}

func overwrite[T any](l []T, with T) {
	for i := range l[:cap(l)] {
		l[:cap(l)][i] = with
	}
}

// spoil overwrites an image's lists, and the room behind them.
func spoil(m api.Image) {
	for _, f := range m.Codes {
		overwrite(f.Ops, api.Op{Code: api.IrFault, A: 1})
		overwrite(f.Loops, api.Loop{Head: 9})
	}
	for _, j := range m.Jobs {
		overwrite(j.Codes, 77)
		overwrite(j.Bases, 77)
	}
	overwrite(m.Cells, api.Cell{Kind: api.KString})
	overwrite(m.Codes, api.Flat{})
	overwrite(m.Jobs, api.Job{Name: "Z"})
}

// An image and inputs that are handed in are neither changed nor kept.
func TestWhatIsHandedIn(t *testing.T) {
	given := roomyImage(t)
	r, want := made(t, given), made(t, roomyImage(t))
	spoil(given)
	inputs := roomy([]api.Input{at("%IX0.0", value.Bool(true)), at("%IW1", number(3))}, at("%IW1", number(9)))
	kept := slices.Clone(inputs[:cap(inputs)])
	for _, x := range []*sched.Resource{r, want} {
		must(t, x.Start())
		for range 5 {
			entry(t, x, 9, inputs...)
		}
		if !slices.Equal(inputs[:cap(inputs)], kept) {
			t.Error(inputs)
		}
	}
	overwrite(inputs, api.Input{})
	entry(t, r, 10)
	entry(t, want, 10)
	if !stateOf(r).same(stateOf(want)) || r.Mode() != api.ModeRun {
		t.Error(stateOf(r), stateOf(want))
	}
	same := roomyImage(t)
	x := made(t, same)
	must(t, x.Start())
	entry(t, x, 20)
	must(t, x.Stop())
	must(t, x.Reset(true))
	if fresh := roomyImage(t); !reflect.DeepEqual(same, fresh) || !reflect.DeepEqual(same.Codes[:cap(same.Codes)], fresh.Codes[:cap(fresh.Codes)]) {
		t.Error("changed")
	}
}

// Answers are memory of their own.
func TestAnswers(t *testing.T) {
	r := started(t, task("A", 10, 1, countsSum), task("B", 10, 2, countsKept))
	first := entry(t, r, 30)
	second := entry(t, r, 10)
	want := stateOf(r)
	over := slices.Clone(second.Over)
	overwrite(first.Ran, "Z")
	overwrite(first.Over, 99)
	overwrite(first.Outputs, api.Input{})
	overwrite(r.Cells(), api.Value{})
	overwrite(r.Outputs(), api.Input{})
	if !stateOf(r).same(want) || !slices.Equal(second.Ran, []string{"A", "B"}) || !slices.Equal(second.Outputs, want.outputs) {
		t.Error(second, stateOf(r), want)
	}
	overwrite(second.Over, 99)
	if got := overruns(t, r); !slices.Equal(got, over) {
		t.Error(got, over)
	}
	// What was answered stays when the resource goes on.
	cells, outputs := r.Cells(), r.Outputs()
	entry(t, r, 10, at("%IW1", number(1)))
	must(t, r.Poke(cellPlain, number(1)))
	if !slices.Equal(cells, want.cells) || !slices.Equal(outputs, want.outputs) {
		t.Error(cells, outputs)
	}
}

// Two resources over one image know nothing of one another.
func TestApart(t *testing.T) {
	m := imageOf(t, task("A", 10, 1, countsSum))
	one, other := made(t, m), made(t, m)
	want := stateOf(other)
	must(t, one.Start())
	entry(t, one, 30, at("%IW1", number(1)))
	must(t, one.Poke(cellKept, number(1)))
	if !stateOf(other).same(want) {
		t.Error(stateOf(other))
	}
}

// Several may call a resource at a time: each entry counts, and what is told was so at some time.
func TestSideBySide(t *testing.T) {
	const callers, each = 8, 200
	r := started(t, task("A", 1, 1, countsSum, countsKept))
	entry(t, r, 0)
	var all sync.WaitGroup
	for range callers {
		all.Add(1)
		go func() {
			defer all.Done()
			for range each {
				if report, why := r.Entry(1, nil); why != api.OK || len(report.Ran) != 1 || report.Steps != 10 {
					t.Error(report, why)
				}
				if l := r.Cells(); l[cellSum].Bits+101 != l[cellKept].Bits {
					t.Error(l)
				}
				r.Outputs()
				if r.Poke(cellPlain, number(5)) != api.OK || r.Start() != api.ErrState || r.Mode() != api.ModeRun || r.Now() < 1 {
					t.Error(stateOf(r))
				}
			}
		}()
	}
	all.Wait()
	if r.Now() != callers*each {
		t.Error(r.Now())
	}
	has(t, r, cellSum, number(callers*each))
}
