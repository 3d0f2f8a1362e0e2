package image_test

import (
	"fmt"
	"math/rand"
	"reflect"
	"slices"
	"strings"
	"testing"

	"relay/api"
	"relay/image"
)

// modelSame tells whether two images are the same: all that they have is told alike, nil and empty lists too.
func modelSame(a, b api.Image) bool { return told(a) == told(b) }

// told is all that an image has.
func told(m api.Image) string {
	var b strings.Builder
	lists(reflect.ValueOf(m), func(v reflect.Value) { fmt.Fprint(&b, v.Len(), ";") })
	leaves(reflect.ValueOf(m), func(v reflect.Value) {
		if v.Kind() == reflect.String {
			fmt.Fprintf(&b, "%q;", v)
		} else {
			fmt.Fprint(&b, v, ";")
		}
	})
	return b.String()
}

// leaves hands on all numbers, texts and bools in a value.
func leaves(v reflect.Value, to func(v reflect.Value)) {
	switch v.Kind() {
	case reflect.Slice:
		for i := range v.Len() {
			leaves(v.Index(i), to)
		}
	case reflect.Struct:
		for i := range v.NumField() {
			leaves(v.Field(i), to)
		}
	default:
		to(v)
	}
}

// lists hands on all lists in a value.
func lists(v reflect.Value, to func(v reflect.Value)) {
	switch v.Kind() {
	case reflect.Slice:
		to(v)
		for i := range v.Len() {
			lists(v.Index(i), to)
		}
	case reflect.Struct:
		for i := range v.NumField() {
			lists(v.Field(i), to)
		}
	}
}

// turn makes a number, text or bool another one, and tells how to make it what it was.
func turn(v reflect.Value) func() {
	was := reflect.New(v.Type()).Elem()
	was.Set(v)
	switch v.Kind() {
	case reflect.Bool:
		v.SetBool(!v.Bool())
	case reflect.String:
		v.SetString(v.String() + "x")
	case reflect.Uint8, reflect.Uint64:
		v.SetUint(v.Uint() ^ 1)
	default:
		v.SetInt(v.Int() ^ 1<<40)
	}
	return func() { v.Set(was) }
}

// P20.4: with each field other, and with each list shorter or longer, it is another image.
func TestSame(t *testing.T) {
	a, b := good(), good()
	a.Jobs[1].Codes, a.Jobs[1].Bases = []int{codeProgram}, []int{0}
	b.Jobs[1].Codes, b.Jobs[1].Bases = []int{codeProgram}, []int{0}
	n := 0
	leaves(reflect.ValueOf(&a).Elem(), func(v reflect.Value) {
		n++
		back := turn(v)
		if image.Same(a, b) || image.Same(b, a) || modelSame(a, b) {
			t.Error(n, v)
		}
		back()
		if !image.Same(a, b) || !image.Same(b, a) || !modelSame(a, b) {
			t.Fatal(n, v)
		}
	})
	if n < 300 {
		t.Error(n)
	}
	lists(reflect.ValueOf(&a).Elem(), func(v reflect.Value) {
		if v.Len() == 0 {
			return
		}
		was := reflect.New(v.Type()).Elem()
		was.Set(v)
		for _, l := range []reflect.Value{was.Slice(0, v.Len()-1), was.Slice(1, v.Len()), reflect.Append(was.Slice3(0, v.Len(), v.Len()), was.Index(0)), reflect.Zero(v.Type())} {
			v.Set(l)
			if image.Same(a, b) || image.Same(b, a) {
				t.Error(v)
			}
		}
		v.Set(was)
	})
	if !image.Same(a, b) {
		t.Error("changed")
	}
}

// Nil and empty are one; images that may not be are compared too.
func TestSameEmpty(t *testing.T) {
	a := api.Image{Codes: []api.Flat{{}}, Jobs: []api.Job{{}}}
	b := api.Image{Cells: []api.Cell{}, Codes: []api.Flat{{Ops: []api.Op{}, Loops: []api.Loop{}}}, Jobs: []api.Job{{Codes: []int{}, Bases: []int{}}}}
	if !image.Same(a, b) || !image.Same(b, a) {
		t.Error("not the same")
	}
	if !image.Same(api.Image{}, api.Image{Cells: []api.Cell{}, Codes: []api.Flat{}, Jobs: []api.Job{}}) || image.Same(api.Image{}, a) {
		t.Error("not the same")
	}
	// Floats are told apart by their bits.
	x, y := good(), good()
	x.Cells[cellFloat].Init.Bits, y.Cells[cellFloat].Init.Bits = 0, 1<<63
	if image.Same(x, y) || !image.Same(good(), good()) {
		t.Error("+0 and -0 are two; the NaN is one")
	}
}

// roomy gives each list in a value spare room with something in it.
func roomy(v reflect.Value) {
	lists(v, func(v reflect.Value) {
		n := v.Len()
		l := reflect.MakeSlice(v.Type(), n+2, n+2)
		reflect.Copy(l, v)
		if n > 0 {
			l.Index(n).Set(l.Index(0))
		}
		v.Set(l.Slice(0, n))
	})
}

// snapshot tells all that a value has, the spare room of its lists too.
func snapshot(m api.Image) string {
	var b strings.Builder
	b.WriteString(told(m))
	lists(reflect.ValueOf(m), func(v reflect.Value) {
		leaves(v.Slice(0, v.Cap()), func(v reflect.Value) { fmt.Fprint(&b, v, ";") })
	})
	return b.String()
}

// apart tells whether no two lists in some values share memory.
func apart(values ...any) bool {
	var l [][2]uintptr
	for _, x := range values {
		lists(reflect.ValueOf(x), func(v reflect.Value) {
			if v.Cap() > 0 {
				l = append(l, [2]uintptr{v.Pointer(), v.Pointer() + uintptr(v.Cap())*v.Type().Elem().Size()})
			}
		})
	}
	slices.SortFunc(l, func(a, b [2]uintptr) int { return slices.Compare(a[:], b[:]) })
	for i := 1; i < len(l); i++ {
		if l[i][0] < l[i-1][1] {
			return false
		}
	}
	return true
}

// What is handed in stays, spare room too; what is answered is memory of its own.
func TestMemory(t *testing.T) {
	look := func(m api.Image) {
		roomy(reflect.ValueOf(&m).Elem())
		before := snapshot(m)
		image.Check(m)
		image.Same(m, m)
		b, c := encoded(t, m), encoded(t, m)
		if snapshot(m) != before || !apart(m, b, c) {
			t.Fatal(before)
		}
		b = append(b, 1, 2, 3)[:len(b)]
		spare := slices.Clone(b[:cap(b)])
		x, y := decoded(t, b), decoded(t, b)
		if !slices.Equal(b[:cap(b)], spare) || !apart(m, b, x, y) {
			t.Fatal(before)
		}
		// Texts are bytes too.
		for i := range b {
			b[i] = '?'
		}
		if !image.Same(x, m) || !image.Same(y, m) {
			t.Fatal(before)
		}
	}
	each(500, look)
	r := rand.New(rand.NewSource(5))
	for range 2000 {
		m := some(r)
		spoil(r, &m)
		roomy(reflect.ValueOf(&m).Elem())
		before := snapshot(m)
		image.Check(m)
		image.Encode(m)
		if snapshot(m) != before {
			t.Fatal(before)
		}
	}
}
