package sfccore_test

import (
	"fmt"
	"math/rand"
	"reflect"
	"slices"
	"strings"
	"testing"

	"relay/api"
	"relay/sfccore"
	"relay/shown"
)

// roomy gives each list in a value spare room with something in it.
func roomy(v reflect.Value) {
	switch v.Kind() {
	case reflect.Slice:
		n := v.Len()
		l := reflect.MakeSlice(v.Type(), n+2, n+2)
		reflect.Copy(l, v)
		for i := range n {
			roomy(l.Index(i))
		}
		if n > 0 {
			l.Index(n).Set(l.Index(0))
		}
		v.Set(l.Slice(0, n))
	case reflect.Struct:
		for i := range v.NumField() {
			roomy(v.Field(i))
		}
	}
}

// whole tells all that a value has, the spare room of its lists too.
func whole(b *strings.Builder, v reflect.Value) {
	switch v.Kind() {
	case reflect.Slice:
		l := v.Slice(0, v.Cap())
		fmt.Fprint(b, "[", v.Len(), ":")
		for i := range l.Len() {
			whole(b, l.Index(i))
		}
		b.WriteString("]")
	case reflect.Struct:
		b.WriteString("{")
		for i := range v.NumField() {
			whole(b, v.Field(i))
		}
		b.WriteString("}")
	default:
		fmt.Fprintf(b, "%v;", v)
	}
}

func snapshot(v any) string {
	var b strings.Builder
	whole(&b, reflect.ValueOf(v))
	return b.String()
}

// regions is the memory of all lists in a value, their spare room too.
func regions(v reflect.Value, found *[][2]uintptr) {
	switch v.Kind() {
	case reflect.Slice:
		if v.Cap() > 0 {
			from := v.Pointer()
			*found = append(*found, [2]uintptr{from, from + uintptr(v.Cap())*v.Type().Elem().Size()})
		}
		for i := range v.Len() {
			regions(v.Index(i), found)
		}
	case reflect.Struct:
		for i := range v.NumField() {
			regions(v.Field(i), found)
		}
	}
}

// apart tells whether no two lists in some values share memory.
func apart(values ...any) bool {
	var l [][2]uintptr
	for _, v := range values {
		regions(reflect.ValueOf(v), &l)
	}
	slices.SortFunc(l, func(a, b [2]uintptr) int { return slices.Compare(a[:], b[:]) })
	for i := 1; i < len(l); i++ {
		if l[i][0] < l[i-1][1] {
			return false
		}
	}
	return true
}

// What is handed in stays, spare room too; what is answered is memory of its own, and the same each time.
func TestMemory(t *testing.T) {
	for seed := range int64(300) {
		c := parsed(t, newMaker(seed).chart())
		roomy(reflect.ValueOf(&c).Elem())
		before := snapshot(c)
		a, av, _ := sfccore.Chart(c)
		b, bv, _ := sfccore.Chart(c)
		if snapshot(c) != before || !apart(c, a, av, b, bv) {
			t.Fatal(before)
		}
		if !reflect.DeepEqual(a, b) || !reflect.DeepEqual(av, bv) {
			t.Fatal(before)
		}
	}
}

// shake changes one field of a value somewhere, by chance.
func shake(r *rand.Rand, v reflect.Value) {
	switch v.Kind() {
	case reflect.Slice:
		n := v.Len()
		switch pick := r.Intn(10); {
		case n == 0:
		case pick == 0:
			v.Set(v.Slice(0, n-1))
		case pick == 1:
			v.Set(reflect.Append(v.Slice3(0, n, n), v.Index(r.Intn(n))))
		default:
			shake(r, v.Index(r.Intn(n)))
		}
	case reflect.Struct:
		shake(r, v.Field(r.Intn(v.NumField())))
	case reflect.Bool:
		v.SetBool(r.Intn(2) == 0)
	case reflect.String:
		v.SetString([]string{"", "A0", "A1", "S0", "S1", "S2", "X", "T", "V", "N", "S", "R", "SL", "DS"}[r.Intn(14)])
	case reflect.Int:
		v.SetInt(int64(r.Intn(28) - 3))
	case reflect.Uint8:
		v.SetUint(uint64(r.Intn(22)))
	case reflect.Uint64:
		v.SetUint(r.Uint64() >> r.Intn(64))
	}
}

// own is a chart whose lists no other chart has.
func own(c api.Chart) api.Chart {
	roomy(reflect.ValueOf(&c).Elem())
	return c
}

// Whatever a chart's steps, transitions, links and actions are, they come to what the model has.
func TestShakenCharts(t *testing.T) {
	r := rand.New(rand.NewSource(5))
	good := 0
	for seed := range int64(5000) {
		c := own(parsed(t, newMaker(seed).chart()))
		for range 1 + r.Intn(4) {
			switch {
			case r.Intn(2) == 0:
				shake(r, reflect.ValueOf(&c.Steps).Elem())
			case r.Intn(2) == 0 && len(c.Trans) > 0:
				x := reflect.ValueOf(&c.Trans[r.Intn(len(c.Trans))]).Elem()
				shake(r, x.Field(r.Intn(4))) // all but the condition
			case len(c.Actions) > 0:
				c.Actions = append(c.Actions, c.Actions[r.Intn(len(c.Actions))])
				x := &c.Actions[r.Intn(len(c.Actions))]
				x.Name, x.At = []string{"A0", "A1", "V", ""}[r.Intn(4)], r.Intn(9)
			}
		}
		if asModel(t, c) {
			good++
		}
	}
	if good < 1500 || good > 4900 {
		t.Error(good)
	}
}

// Whatever trees stand in a chart, the call ends.
func TestShakenTrees(t *testing.T) {
	r := rand.New(rand.NewSource(6))
	for seed := range int64(4000) {
		c := own(parsed(t, newMaker(seed).chart()))
		for range 1 + r.Intn(5) {
			shake(r, reflect.ValueOf(&c).Elem())
		}
		at, faulty := (&model{c: c}).fault()
		s, v, err := sfccore.Chart(c)
		if faulty && err != error(api.Fault{At: at, Why: api.ErrStep}) || !faulty && err != nil || err != nil && len(s)+len(v) > 0 {
			t.Fatalf("%+v: %v", c, err)
		}
	}
}

// renameSteps gives steps other names wherever a tree asks for their variables.
func renameSteps(v reflect.Value, names map[string]string) {
	switch v.Kind() {
	case reflect.Slice:
		for i := range v.Len() {
			renameSteps(v.Index(i), names)
		}
	case reflect.Struct:
		if e, ok := v.Addr().Interface().(*api.Expr); ok && e.Op == api.ExField && (e.Field == "X" || e.Field == "T") && names[e.Name] != "" {
			e.Name = names[e.Name]
		}
		for i := range v.NumField() {
			renameSteps(v.Field(i), names)
		}
	}
}

// rename gives steps and actions other names, everywhere in a chart.
func rename(c *api.Chart, steps, actions map[string]string) {
	for i := range c.Steps {
		c.Steps[i].Name = steps[c.Steps[i].Name]
		for k, l := range c.Steps[i].Links {
			if actions[l.Name] != "" {
				c.Steps[i].Links[k].Name = actions[l.Name]
			}
		}
	}
	for _, x := range c.Trans {
		for _, side := range [][]string{x.From, x.To} {
			for i := range side {
				side[i] = steps[side[i]]
			}
		}
	}
	for i := range c.Actions {
		c.Actions[i].Name = actions[c.Actions[i].Name]
	}
	renameSteps(reflect.ValueOf(&c.Trans).Elem(), steps)
	renameSteps(reflect.ValueOf(&c.Actions).Elem(), steps)
}

// P13.4: names of steps and actions play no part.
func TestNamesPlayNoPart(t *testing.T) {
	r := rand.New(rand.NewSource(7))
	for seed := range int64(3000) {
		c := own(parsed(t, newMaker(seed).chart()))
		steps, actions := map[string]string{}, map[string]string{}
		for _, n := range r.Perm(len(c.Steps)) {
			steps[c.Steps[n].Name] = fmt.Sprint("K", len(steps))
		}
		for _, n := range r.Perm(len(c.Actions)) {
			actions[c.Actions[n].Name] = fmt.Sprint("K", len(actions))
		}
		a, av, err := sfccore.Chart(c)
		before := shown.Placed(a)
		rename(&c, steps, actions)
		b, bv, other := sfccore.Chart(c)
		if after := shown.Placed(b); err != nil || other != nil || after != before || !reflect.DeepEqual(av, bv) {
			t.Fatalf("%+v %v %v:\n%s\n%s\n%v", c, steps, actions, before, after, other)
		}
	}
}
