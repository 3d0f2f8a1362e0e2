package plc_test

import (
	"math/rand"
	"reflect"
	"slices"
	"sync"
	"testing"

	"relay/api"
	"relay/image"
	"relay/plc"
	"relay/samples"
)

// roomy is a copy of a list, with something in the room behind it.
func roomy[T any](l []T, behind T) []T {
	return append(append(make([]T, 0, len(l)+2), l...), behind, behind)[:len(l)]
}

// full is a list with the room behind it.
func full[T any](l []T) []T { return slices.Clone(l[:cap(l)]) }

// roomyScript is a copy of a script whose lists have room behind them.
func roomyScript(script []api.Entry) []api.Entry {
	l := roomy(script, api.Entry{Advance: -1})
	for i := range l {
		l[i].Inputs = roomy(l[i].Inputs, api.Input{Addr: "?"})
	}
	return l
}

func sameScript(a, b []api.Entry) bool {
	return slices.EqualFunc(a[:cap(a)], b[:cap(b)], func(a, b api.Entry) bool {
		return a.Advance == b.Advance && slices.Equal(full(a.Inputs), full(b.Inputs))
	})
}

// What is handed in stays, the room behind it too.
func TestWhatIsHandedIn(t *testing.T) {
	each(60, func(r *rand.Rand, sources []string) {
		given := roomy(sources, "?")
		want := full(given)
		m := compiled(t, given...)
		plc.Front(given)
		script := roomyScript(samples.Script(r.Intn, m.Cells, 4))
		kept := roomyScript(script)
		meant(t, given, script)
		x, y := roomyImage(m), roomyImage(m)
		reports := played(t, x, script)
		if !slices.Equal(full(given), want) || !sameScript(script, kept) || !reflect.DeepEqual(unfolded(x), unfolded(y)) {
			t.Fatalf("%q", sources)
		}
		file := roomy(encoded(t, m), 99)
		bytes := full(file)
		back, why := plc.Load(file)
		if why != api.OK || !slices.Equal(full(file), bytes) {
			t.Fatal(why)
		}
		// Nor is it kept.
		overwrite(file, 0)
		for i := range script {
			overwrite(script[i].Inputs, api.Input{})
		}
		if !image.Same(back, m) || !sameReports(played(t, m, kept), reports) {
			t.Fatalf("%q", sources)
		}
	})
}

func overwrite[T any](l []T, with T) {
	for i := range l[:cap(l)] {
		l[:cap(l)][i] = with
	}
}

// roomyImage is a copy of an image whose lists have room behind them.
func roomyImage(m api.Image) api.Image {
	m.Cells, m.Codes, m.Jobs = roomy(m.Cells, api.Cell{Max: -1}), roomy(m.Codes, api.Flat{Regs: -1}), roomy(m.Jobs, api.Job{Bound: -1})
	for i := range m.Codes {
		m.Codes[i].Ops, m.Codes[i].Loops = roomy(m.Codes[i].Ops, api.Op{Code: -1}), roomy(m.Codes[i].Loops, api.Loop{Head: -1})
	}
	for i := range m.Jobs {
		m.Jobs[i].Codes, m.Jobs[i].Bases = roomy(m.Jobs[i].Codes, -1), roomy(m.Jobs[i].Bases, -1)
	}
	return m
}

// unfolded is an image whose lists go on to the ends of their rooms.
func unfolded(m api.Image) api.Image {
	m.Cells, m.Codes, m.Jobs = full(m.Cells), full(m.Codes), full(m.Jobs)
	for i, f := range m.Codes {
		m.Codes[i].Ops, m.Codes[i].Loops = full(f.Ops), full(f.Loops)
	}
	for i, j := range m.Jobs {
		m.Jobs[i].Codes, m.Jobs[i].Bases = full(j.Codes), full(j.Bases)
	}
	return m
}

// span is the memory of a list, its spare room too.
type span struct{ from, to uintptr }

// spans is the memory of all lists in a value.
func spans(v reflect.Value) []span {
	var l []span
	switch v.Kind() {
	case reflect.Struct:
		for i := range v.NumField() {
			l = append(l, spans(v.Field(i))...)
		}
	case reflect.Slice:
		if size := v.Type().Elem().Size() * uintptr(v.Cap()); size > 0 {
			l = append(l, span{v.Pointer(), v.Pointer() + size})
		}
		for i := range v.Len() {
			l = append(l, spans(v.Index(i))...)
		}
	}
	return l
}

// checkApart checks that no two lists in values share memory.
func checkApart(t *testing.T, values ...any) {
	t.Helper()
	var l []span
	for _, x := range values {
		l = append(l, spans(reflect.ValueOf(x))...)
	}
	slices.SortFunc(l, func(a, b span) int {
		if a.from < b.from {
			return -1
		}
		return 1
	})
	for i := 1; i < len(l); i++ {
		if l[i].from < l[i-1].to {
			t.Fatal("shared", i, len(l))
		}
	}
}

// No two lists of one answer, or of two, share memory.
func TestAnswersApart(t *testing.T) {
	each(60, func(r *rand.Rand, sources []string) {
		p, codes, _ := plc.Front(sources)
		q, others, _ := plc.Front(sources)
		m := compiled(t, sources...)
		script := samples.Script(r.Intn, m.Cells, 5)
		file := encoded(t, m)
		back, _ := plc.Load(file)
		bad := spoiled(t, r, sources)
		_, one := plc.Compile(bad)
		_, two := plc.Mean(bad, script)
		checkApart(t, p, codes, q, others, m, compiled(t, sources...), file, back, script, played(t, m, script), played(t, m, script), meant(t, sources, script), one, two)
	})
}

// What calls answer hangs on the arguments alone, however many are made at a time.
func TestSideBySide(t *testing.T) {
	var all sync.WaitGroup
	each(40, func(r *rand.Rand, sources []string) {
		m := compiled(t, sources...)
		script := samples.Script(r.Intn, m.Cells, 5)
		bad := spoiled(t, r, sources)
		want, reports, faults := encoded(t, m), meant(t, sources, script), model(bad).whole
		for range 3 {
			all.Add(1)
			go func() {
				defer all.Done()
				m, _ := plc.Compile(sources)
				b, _ := image.Encode(m)
				l, _ := plc.Mean(sources, script)
				x, _ := plc.Play(m, script)
				if _, got := plc.Compile(bad); !slices.Equal(got, faults) || !slices.Equal(b, want) || !sameReports(l, reports) || !sameReports(x, reports) {
					t.Errorf("%q", sources)
				}
			}()
		}
	})
	all.Wait()
}
