package ilcore_test

import (
	"fmt"
	"math/rand"
	"reflect"
	"slices"
	"strings"
	"testing"

	"relay/ilcore"
)

// roomy gives each list in a value spare room with something in it.
func roomy(v reflect.Value) {
	switch v.Kind() {
	case reflect.Slice:
		n := v.Len()
		l := reflect.MakeSlice(v.Type(), n+2, n+2)
		reflect.Copy(l, v)
		for i := range n {
			roomy(l.Index(i))
		}
		if n > 0 {
			l.Index(n).Set(l.Index(0))
		}
		v.Set(l.Slice(0, n))
	case reflect.Struct:
		for i := range v.NumField() {
			roomy(v.Field(i))
		}
	}
}

// whole tells all that a value has, the spare room of its lists too.
func whole(b *strings.Builder, v reflect.Value) {
	switch v.Kind() {
	case reflect.Slice:
		l := v.Slice(0, v.Cap())
		fmt.Fprint(b, "[", v.Len(), ":")
		for i := range l.Len() {
			whole(b, l.Index(i))
		}
		b.WriteString("]")
	case reflect.Struct:
		b.WriteString("{")
		for i := range v.NumField() {
			whole(b, v.Field(i))
		}
		b.WriteString("}")
	default:
		fmt.Fprintf(b, "%v;", v)
	}
}

func snapshot(v any) string {
	var b strings.Builder
	whole(&b, reflect.ValueOf(v))
	return b.String()
}

// regions is the memory of all lists in a value, their spare room too.
func regions(v reflect.Value, found *[][2]uintptr) {
	switch v.Kind() {
	case reflect.Slice:
		if v.Cap() > 0 {
			from := v.Pointer()
			*found = append(*found, [2]uintptr{from, from + uintptr(v.Cap())*v.Type().Elem().Size()})
		}
		for i := range v.Len() {
			regions(v.Index(i), found)
		}
	case reflect.Struct:
		for i := range v.NumField() {
			regions(v.Field(i), found)
		}
	}
}

// apart tells whether no two lists in some values share memory.
func apart(values ...any) bool {
	var l [][2]uintptr
	for _, v := range values {
		regions(reflect.ValueOf(v), &l)
	}
	slices.SortFunc(l, func(a, b [2]uintptr) int { return slices.Compare(a[:], b[:]) })
	for i := 1; i < len(l); i++ {
		if l[i][0] < l[i-1][1] {
			return false
		}
	}
	return true
}

// What is handed in stays, spare room too; what is answered is memory of its own.
func TestMemory(t *testing.T) {
	answered := 0
	for seed := range int64(1500) {
		l := parsed(t, newMaker(seed).source(12))
		roomy(reflect.ValueOf(&l).Elem())
		before := snapshot(l)
		a, av, err := ilcore.Trees(l)
		b, bv, _ := ilcore.Trees(l)
		if snapshot(l) != before || !apart(a, av, b, bv) || !apart(l, a, av) {
			t.Fatal(before)
		}
		if err == nil && len(a) > 4 {
			answered++
		}
	}
	if answered < 300 {
		t.Error(answered)
	}
}

// shake changes one field of a value somewhere, by chance.
func shake(r *rand.Rand, v reflect.Value) {
	switch v.Kind() {
	case reflect.Slice:
		n := v.Len()
		switch pick := r.Intn(10); {
		case n == 0:
		case pick == 0:
			v.Set(v.Slice(0, n-1))
		case pick == 1:
			v.Set(reflect.Append(v.Slice3(0, n, n), v.Index(r.Intn(n))))
		default:
			shake(r, v.Index(r.Intn(n)))
		}
	case reflect.Struct:
		shake(r, v.Field(r.Intn(v.NumField())))
	case reflect.String:
		v.SetString([]string{"", "A", "LD", "ST", "AND", ")", "S", "CAL", "RET", "FN", "JMP", "X"}[r.Intn(12)])
	case reflect.Int:
		v.SetInt(int64(r.Intn(26) - 1))
	case reflect.Bool:
		v.SetBool(r.Intn(2) == 0)
	case reflect.Uint8:
		v.SetUint(uint64(r.Intn(22)))
	case reflect.Uint64:
		v.SetUint(r.Uint64() >> r.Intn(64))
	}
}
