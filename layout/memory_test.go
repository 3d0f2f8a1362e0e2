package layout_test

import (
	"fmt"
	"math/rand"
	"reflect"
	"slices"
	"strings"
	"testing"

	"relay/api"
	"relay/layout"
)

// roomy gives each list in a value spare room with something in it.
func roomy(v reflect.Value) {
	switch v.Kind() {
	case reflect.Slice:
		n := v.Len()
		l := reflect.MakeSlice(v.Type(), n+2, n+2)
		reflect.Copy(l, v)
		for i := range n {
			roomy(l.Index(i))
		}
		if n > 0 {
			l.Index(n).Set(l.Index(0))
		}
		v.Set(l.Slice(0, n))
	case reflect.Struct:
		for i := range v.NumField() {
			roomy(v.Field(i))
		}
	}
}

// whole tells all that a value has, the spare room of its lists too.
func whole(b *strings.Builder, v reflect.Value) {
	switch v.Kind() {
	case reflect.Slice:
		l := v.Slice(0, v.Cap())
		fmt.Fprint(b, "[", v.Len(), ":")
		for i := range l.Len() {
			whole(b, l.Index(i))
		}
		b.WriteString("]")
	case reflect.Struct:
		b.WriteString("{")
		for i := range v.NumField() {
			whole(b, v.Field(i))
		}
		b.WriteString("}")
	default:
		fmt.Fprintf(b, "%v;", v)
	}
}

func snapshot(v any) string {
	var b strings.Builder
	whole(&b, reflect.ValueOf(v))
	return b.String()
}

// regions is the memory of all lists in a value, their spare room too.
func regions(v reflect.Value, found *[][2]uintptr) {
	switch v.Kind() {
	case reflect.Slice:
		if v.Cap() > 0 {
			from := v.Pointer()
			*found = append(*found, [2]uintptr{from, from + uintptr(v.Cap())*v.Type().Elem().Size()})
		}
		for i := range v.Len() {
			regions(v.Index(i), found)
		}
	case reflect.Struct:
		for i := range v.NumField() {
			regions(v.Field(i), found)
		}
	}
}

// apart tells whether no two lists in some values share memory.
func apart(values ...any) bool {
	var l [][2]uintptr
	for _, v := range values {
		regions(reflect.ValueOf(v), &l)
	}
	slices.SortFunc(l, func(a, b [2]uintptr) int { return slices.Compare(a[:], b[:]) })
	for i := 1; i < len(l); i++ {
		if l[i][0] < l[i-1][1] {
			return false
		}
	}
	return true
}

// answers is all that the calls tell of a project.
func answers(p api.Project) []any {
	var l []any
	put := func(x ...any) { l = append(l, x...) }
	cells, source, err := layout.Cells(p)
	put(cells, source, fmt.Sprint(err))
	for i, u := range p.Pous {
		n, why := layout.Size(p, i)
		at, is := layout.Base(p, i)
		put(n, int(why), at, is)
		for _, v := range modelVars(u) {
			at, found, is := layout.Find(p, i, v.Name)
			put(at, found, is)
		}
	}
	for i := range p.Runs {
		at, is := layout.Run(p, i)
		put(at, is)
	}
	for _, v := range p.Globals {
		at, found, is := layout.Global(p, v.Name)
		put(at, found, is)
	}
	return l
}

// What is handed in stays, spare room too; what is answered is memory of its own, and the same each time.
func TestMemory(t *testing.T) {
	some(t, 200, func(m maker, p api.Project) {
		roomy(reflect.ValueOf(&p).Elem())
		before := snapshot(p)
		a, b := answers(p), answers(p)
		if snapshot(p) != before || !apart(append(append([]any{p}, a...), b...)...) || !reflect.DeepEqual(a, b) {
			t.Fatal(before)
		}
	})
}

// shake changes one field of a value somewhere, by chance.
func shake(r *rand.Rand, v reflect.Value) {
	switch v.Kind() {
	case reflect.Slice:
		n := v.Len()
		switch pick := r.Intn(10); {
		case n == 0:
		case pick == 0:
			v.Set(v.Slice(0, n-1))
		case pick == 1:
			v.Set(reflect.Append(v.Slice3(0, n, n), v.Index(r.Intn(n))))
		default:
			shake(r, v.Index(r.Intn(n)))
		}
	case reflect.Struct:
		shake(r, v.Field(r.Intn(v.NumField())))
	case reflect.Bool:
		v.SetBool(r.Intn(2) == 0)
	case reflect.String:
		v.SetString([]string{"", "FB0", "FB1", "FB2", "P0", "F0", "TON", "SR", "V1", "%IX0.0", "%QX0.8", "g0"}[r.Intn(12)])
	case reflect.Int:
		v.SetInt([]int64{-1 << 63, -1, 0, 1, 2, 3, 4, 5, 6, 7, 300, 1<<63 - 1}[r.Intn(12)])
	case reflect.Uint8:
		v.SetUint(uint64(r.Intn(256) >> r.Intn(8)))
	case reflect.Uint64:
		v.SetUint(r.Uint64() >> r.Intn(64))
	}
}

// Whatever a project is, each call ends, with zero values beside what says that there is nothing.
func TestByHand(t *testing.T) {
	r := rand.New(rand.NewSource(1))
	some(t, 6000, func(m maker, p api.Project) {
		roomy(reflect.ValueOf(&p).Elem())
		for range 1 + r.Intn(5) {
			shake(r, reflect.ValueOf(&p).Elem())
		}
		if l, source, err := layout.Cells(p); err != nil && len(l) > 0 || err == nil && (source != 0 || len(l) > api.MaxCells) {
			t.Fatal(len(l), source, err)
		}
		for i, u := range p.Pous {
			n, why := layout.Size(p, i)
			if why != api.OK && n != 0 || n > api.MaxCells {
				t.Fatal(n, why)
			}
			for _, v := range append(modelVars(u), api.Var{Name: "NONE"}) {
				at, found, is := layout.Find(p, i, v.Name)
				if !is && (at != 0 || !reflect.DeepEqual(found, api.Var{})) || is && (found.Name != v.Name || why != api.OK) {
					t.Fatal(at, found, is)
				}
			}
			first(layout.Base(p, i))
			layout.Pou(p, u.Name)
		}
		for i := range p.Runs {
			if first(layout.Run(p, i)) < -1 {
				t.Fatal(i)
			}
		}
		for _, v := range p.Globals {
			if _, found, is := layout.Global(p, v.Name); !is || found.Name != v.Name {
				t.Fatal(v)
			}
		}
	})
}

// Places that the compiler asks for one by one are told soon enough in a project as great as may be.
func TestManyAsked(t *testing.T) {
	var sources []string
	for i := range 15 {
		text := ""
		for k := 4 * i; k < 4*i+4; k++ {
			text += fmt.Sprint("b", k, ":", strings.Repeat(fmt.Sprint(" b", k+1), 60), "; ")
		}
		sources = append(sources, blocksOf(strings.TrimSuffix(text, "; ")))
	}
	p := project(t, append(sources, blocksOf("b60"))...)
	for range 200 {
		if at, _, is := layout.Find(p, 0, "X59"); at != 0 || !is {
			t.Fatal(at, is)
		}
	}
}
