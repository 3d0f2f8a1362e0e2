package core_test

import (
	"fmt"
	"math/rand"
	"reflect"
	"slices"
	"strings"
	"testing"

	"relay/api"
	"relay/core"
)

// roomy gives each list in a value spare room with something in it.
func roomy(v reflect.Value) {
	switch v.Kind() {
	case reflect.Slice:
		n := v.Len()
		l := reflect.MakeSlice(v.Type(), n+2, n+2)
		reflect.Copy(l, v)
		for i := range n {
			roomy(l.Index(i))
		}
		if n > 0 {
			l.Index(n).Set(l.Index(0))
		}
		v.Set(l.Slice(0, n))
	case reflect.Struct:
		for i := range v.NumField() {
			roomy(v.Field(i))
		}
	}
}

// whole tells all that a value has, the spare room of its lists too.
func whole(b *strings.Builder, v reflect.Value) {
	switch v.Kind() {
	case reflect.Slice:
		l := v.Slice(0, v.Cap())
		fmt.Fprint(b, "[", v.Len(), ":")
		for i := range l.Len() {
			whole(b, l.Index(i))
		}
		b.WriteString("]")
	case reflect.Struct:
		b.WriteString("{")
		for i := range v.NumField() {
			whole(b, v.Field(i))
		}
		b.WriteString("}")
	default:
		fmt.Fprintf(b, "%v;", v)
	}
}

func snapshot(l ...any) string {
	var b strings.Builder
	for _, v := range l {
		whole(&b, reflect.ValueOf(v))
	}
	return b.String()
}

// regions is the memory of all lists in a value, their spare room too.
func regions(v reflect.Value, found *[][2]uintptr) {
	switch v.Kind() {
	case reflect.Slice:
		if v.Cap() > 0 {
			from := v.Pointer()
			*found = append(*found, [2]uintptr{from, from + uintptr(v.Cap())*v.Type().Elem().Size()})
		}
		for i := range v.Len() {
			regions(v.Index(i), found)
		}
	case reflect.Struct:
		for i := range v.NumField() {
			regions(v.Field(i), found)
		}
	}
}

// apart tells whether no two lists in some values share memory.
func apart(values ...any) bool {
	var l [][2]uintptr
	for _, v := range values {
		regions(reflect.ValueOf(v), &l)
	}
	slices.SortFunc(l, func(a, b [2]uintptr) int { return slices.Compare(a[:], b[:]) })
	for i := 1; i < len(l); i++ {
		if l[i][0] < l[i-1][1] {
			return false
		}
	}
	return true
}

// What is handed in stays, spare room too; what is answered is memory of its own, and the same each time.
func TestMemory(t *testing.T) {
	each(t, 40, func(m made) {
		roomy(reflect.ValueOf(&m.p).Elem())
		roomy(reflect.ValueOf(&m.bodies).Elem())
		before := snapshot(m.p, m.bodies)
		a, _, _ := core.Check(m.p, m.bodies)
		b, _, _ := core.Check(m.p, m.bodies)
		if snapshot(m.p, m.bodies) != before || !apart(m.p, m.bodies, a, b) || !reflect.DeepEqual(a, b) || !reflect.DeepEqual(a, m.codes) {
			t.Fatal(before)
		}
	})
}

// parts is all fields and lists in a value, however deep.
func parts(v reflect.Value, found *[]reflect.Value) {
	switch v.Kind() {
	case reflect.Slice:
		*found = append(*found, v)
		for i := range v.Len() {
			parts(v.Index(i), found)
		}
	case reflect.Struct:
		for i := range v.NumField() {
			parts(v.Field(i), found)
		}
	default:
		*found = append(*found, v)
	}
}

// shake changes a part of a value, by chance.
func shake(r *rand.Rand, v reflect.Value) {
	var l []reflect.Value
	parts(v, &l)
	switch v := l[r.Intn(len(l))]; v.Kind() {
	case reflect.Slice:
		n := v.Len()
		switch pick := r.Intn(3); {
		case n == 0:
		case pick == 0:
			v.Set(v.Slice(0, n-1))
		case pick == 1:
			v.Set(reflect.Append(v.Slice3(0, n, n), v.Index(r.Intn(n))))
		default:
			v.Set(reflect.Zero(v.Type()))
		}
	case reflect.Bool:
		v.SetBool(r.Intn(2) == 0)
	case reflect.String:
		v.SetString([]string{"", "F0", "B0", "P0", "TON", "L0", "L1", "A0", "G0", "R0", "I0", "RED", "MAX", "IN", "Q", "ZZ"}[r.Intn(16)])
	case reflect.Int:
		v.SetInt([]int64{-1 << 63, -1, 0, 1, 2, 3, 4, 5, 6, 7, 10, 11, 15, 16, 17, 18, 19, 20, 21, 22, 23, 24, 300, 1<<63 - 1}[r.Intn(24)])
	case reflect.Uint8:
		v.SetUint(uint64(r.Intn(256) >> r.Intn(8)))
	case reflect.Uint64:
		v.SetUint(r.Uint64() >> r.Intn(64))
	}
}

// Whatever a project and its bodies are, the call ends, with codes or with one fault.
func TestByHand(t *testing.T) {
	faults := map[api.Errno]int{}
	each(t, 1500, func(m made) {
		m.p.Pous = slices.Clone(m.p.Pous)
		for i := range m.p.Pous {
			m.p.Pous[i].Vars = slices.Clone(m.p.Pous[i].Vars)
			m.bodies[i] = copied(m.bodies[i])
		}
		for range 1 + m.r.Intn(4) {
			if m.r.Intn(3) == 0 {
				shake(m.r, reflect.ValueOf(&m.p).Elem())
			} else {
				shake(m.r, reflect.ValueOf(&m.bodies).Elem())
			}
		}
		if len(m.p.Pous) != len(m.bodies) {
			return
		}
		codes, pou, err := core.Check(m.p, m.bodies)
		fault, is := err.(api.Fault)
		if err == nil && (pou != 0 || len(codes) != len(m.p.Pous)) || err != nil && (codes != nil || !is || pou < 0 || pou > 0 && pou >= len(m.p.Pous)) {
			t.Fatal(codes, pou, err)
		}
		faults[fault.Why]++
	})
	for _, why := range []api.Errno{api.OK, api.ErrUnknown, api.ErrMust, api.ErrPlace, api.ErrAssign, api.ErrCount, api.ErrFixed, api.ErrFunction, api.ErrTypes} {
		if faults[why] == 0 {
			t.Error(why, faults)
		}
	}
}
