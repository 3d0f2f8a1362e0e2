package watch_test

import (
	"bytes"
	"reflect"
	"slices"
	"sync"
	"testing"

	"relay/api"
	"relay/watch"
)

// roomy is a copy of a list, with something in the room behind it.
func roomy[T any](l []T, behind T) []T {
	return append(append(make([]T, 0, len(l)+2), l...), behind, behind)[:len(l)]
}

// full is a list with the room behind it.
func full[T any](l []T) []T { return slices.Clone(l[:cap(l)]) }

func overwrite[T any](l []T, with T) {
	for i := range l[:cap(l)] {
		l[:cap(l)][i] = with
	}
}

// roomyImage is the usual image, all of whose lists have room behind them.
func roomyImage(t *testing.T) api.Image {
	t.Helper()
	m := usual(t)
	m.Cells, m.Codes, m.Jobs = roomy(m.Cells, api.Cell{}), roomy(m.Codes, api.Flat{}), roomy(m.Jobs, api.Job{})
	for i := range m.Codes {
		m.Codes[i].Ops, m.Codes[i].Loops = roomy(m.Codes[i].Ops, api.Op{}), roomy(m.Codes[i].Loops, api.Loop{})
	}
	for i := range m.Jobs {
		m.Jobs[i].Codes, m.Jobs[i].Bases = roomy(m.Jobs[i].Codes, -1), roomy(m.Jobs[i].Bases, -1)
	}
	return m
}

// spoil overwrites an image's lists, and the room behind them.
func spoil(m api.Image) {
	for _, f := range m.Codes {
		overwrite(f.Ops, api.Op{Code: api.IrFault, A: 1})
		overwrite(f.Loops, api.Loop{Head: 9})
	}
	for _, j := range m.Jobs {
		overwrite(j.Codes, 77)
		overwrite(j.Bases, 77)
	}
	overwrite(m.Cells, api.Cell{Kind: api.KString, Keep: true, Dir: 1, Addr: "%IX0.0"})
	overwrite(m.Codes, api.Flat{})
	overwrite(m.Jobs, api.Job{Name: "Z"})
}

// played is all that a panel tells on its way, in memory of its own.
func played(t *testing.T, p *watch.Panel, inputs []api.Input) [][]any {
	t.Helper()
	var l [][]any
	must(t, p.Force(cellWord, number(5)))
	must(t, p.Force(cellOut, no))
	must(t, p.Start())
	for range 4 {
		report := entry(t, p, 10, inputs...)
		l = append(l, []any{report.Mode, slices.Clone(report.Ran), slices.Clone(report.Outputs), slices.Clone(report.Over), report.Steps, slices.Clone(p.Changed()), bytes.Clone(p.Save()), cellsOf(t, p)})
	}
	must(t, p.Stop())
	must(t, p.Reset(true))
	return append(l, []any{cellsOf(t, p), slices.Clone(p.Forced())})
}

// What is handed in is neither changed nor kept, the room behind a list's end included.
func TestWhatIsHandedIn(t *testing.T) {
	given, fresh := roomyImage(t), roomyImage(t)
	inputs := roomy([]api.Input{at("%IX0.0", yes), at("%IW1", number(3))}, at("%IW1", number(9)))
	keptInputs := full(inputs)
	p := panelOf(t, given)
	spoil(given)
	q := panelOf(t, fresh)
	if got, want := played(t, p, inputs), played(t, q, inputs); !reflect.DeepEqual(got, want) {
		t.Error(got, want)
	}
	if same := roomyImage(t); !reflect.DeepEqual(fresh, same) || !reflect.DeepEqual(full(fresh.Cells), full(same.Cells)) || !reflect.DeepEqual(full(fresh.Codes), full(same.Codes)) {
		t.Error("changed")
	}
	if !slices.Equal(full(inputs), keptInputs) {
		t.Error(inputs)
	}
	b := roomy(q.Save(), 77)
	keptBytes := full(b)
	must(t, p.Load(b))
	cells := roomy([]int{cellText, cellKept}, 99)
	if _, why := p.Look(cells); why != api.OK || !slices.Equal(full(cells), []int{cellText, cellKept, 99, 99}) || !slices.Equal(full(b), keptBytes) {
		t.Error(cells, b)
	}
	overwrite(b, 'z')
	has(t, p, cellText, text("new"))
}

// A pair keeps entries of its own until they are followed.
func TestWhatPairsAreHandedIn(t *testing.T) {
	given := roomyImage(t)
	x := twinOf(t, given)
	spoil(given)
	must(t, x.Start())
	inputs := roomy([]api.Input{at("%IX0.0", yes), at("%IW1", number(3))}, at("%IW1", number(9)))
	kept := full(inputs)
	for range 3 {
		entry(t, x, 10, inputs...)
	}
	if !slices.Equal(full(inputs), kept) {
		t.Error(inputs)
	}
	overwrite(inputs, at("%IW1", number(1000)))
	follows(t, x, 9, 3)
	if !slices.Equal(x.Cells(0), x.Cells(1)) || x.Cells(1)[cellWord] != number(3) {
		t.Error(x.Cells(0), x.Cells(1))
	}
}

// Answers are memory of their own: whatever is done with them, later ones are what they were.
func TestAnswers(t *testing.T) {
	for range 2 {
		p, q := panelOf(t, usual(t)), panelOf(t, usual(t))
		for i, x := range []*watch.Panel{p, q} {
			must(t, x.Force(cellWord, number(5)))
			must(t, x.Force(cellOut, no))
			must(t, x.Start())
			for range 3 {
				report := entry(t, x, 10, at("%IW1", number(1)))
				values, _ := x.Look([]int{0, 1, 2})
				if i == 0 {
					overwrite(report.Ran, "Z")
					overwrite(report.Outputs, api.Input{})
					overwrite(report.Over, 99)
					overwrite(values, api.Value{})
					overwrite(x.Forced(), api.Force{})
					overwrite(x.Changed(), 99)
					overwrite(x.Save(), 99)
				} else {
					x.Changed()
				}
			}
		}
		if !slices.Equal(cellsOf(t, p), cellsOf(t, q)) || !slices.Equal(p.Forced(), q.Forced()) || !bytes.Equal(p.Save(), q.Save()) {
			t.Error(cellsOf(t, p), cellsOf(t, q))
		}
		a, b := entry(t, p, 10), entry(t, q, 10)
		if !sameReport(a, b) || !slices.Equal(p.Changed(), q.Changed()) {
			t.Error(a, b)
		}
		// What was told stays when the panel goes on.
		told, l := p.Forced(), cellsOf(t, p)
		must(t, p.Force(cellWord, number(6)))
		must(t, p.Force(cellIn, yes))
		must(t, p.Free(cellOut))
		if want := []api.Force{{Cell: cellWord, Value: number(5)}, {Cell: cellOut, Value: no}}; !slices.Equal(told, want) || l[cellWord] != number(5) {
			t.Error(told, l)
		}
	}
	x := counting(t)
	entry(t, x, 10)
	overwrite(x.Cells(0), api.Value{})
	overwrite(x.Cells(1), api.Value{})
	sums(t, x, 0, -1)
}

// Two panels over one image, and a pair, know nothing of one another; and go on side by side.
func TestApart(t *testing.T) {
	m := usual(t)
	one, other := panelOf(t, m), panelOf(t, m)
	must(t, one.Force(cellKept, number(1)))
	must(t, one.Start())
	entry(t, one, 10, at("%IW1", number(1)))
	if got := cellsOf(t, other); !slices.Equal(got, cellsOf(t, panelOf(t, m))) || len(other.Forced()) > 0 || len(other.Changed()) > 0 {
		t.Error(got)
	}
	want := played(t, panelOf(t, m), nil)
	var all sync.WaitGroup
	for range 8 {
		all.Add(1)
		p, x := panelOf(t, m), twinOf(t, m)
		go func() {
			defer all.Done()
			if got := played(t, p, nil); !reflect.DeepEqual(got, want) {
				t.Error(got, want)
			}
			x.Start()
			for range 20 {
				x.Entry(10, nil)
			}
			if x.Down(0); x.Cells(1)[cellKept] != number(120) {
				t.Error(x.Cells(1))
			}
		}()
	}
	all.Wait()
}
