package ir_test

import (
	"fmt"
	"math/rand"
	"reflect"
	"slices"
	"testing"

	"relay/api"
	"relay/ir"
	"relay/listing"
	"relay/samples"
)

// made is a project by chance.
type made struct {
	r     *rand.Rand
	p     api.Project
	codes []api.Code
}

// each hands on n projects by chance, with labels and jumps among their statements, if that is asked.
func each(t *testing.T, n int, jumps bool, to func(m made)) {
	t.Helper()
	for seed := range n {
		r := rand.New(rand.NewSource(int64(seed)))
		p, bodies := parsed(t, samples.Sources(r.Intn)...)
		if jumps {
			for i := range bodies {
				bodies[i] = samples.WithJumps(r.Intn, bodies[i])
			}
		}
		to(made{r, p, typed(t, p, bodies)})
	}
}

// P17.1: instructions are as the chapter's rows have them.
func TestModel(t *testing.T) {
	counts := map[int]int{}
	for _, jumps := range []bool{false, true} {
		each(t, 300, jumps, func(m made) {
			for _, c := range m.codes {
				f, want := flat(t, c), modelBuild(c)
				if !reflect.DeepEqual(f, want) {
					t.Fatalf("%s\n got %s\nwant %s", c.Name, listing.Text(f), listing.Text(want))
				}
				for _, o := range f.Ops {
					counts[o.Code]++
				}
			}
		})
	}
	for code := api.IrConst; code <= api.IrReturn; code++ {
		if counts[code] < 20 {
			t.Error(code, counts)
		}
	}
}

// P17.3: each register that an instruction reads is set on every way to it.
func setAhead(f api.Flat) error {
	n := len(f.Ops)
	var sets []map[int]bool // which registers are set on every way to a place; nil: none was found yet
	sets = make([]map[int]bool, n)
	sets[0] = map[int]bool{}
	open := []int{0}
	for len(open) > 0 {
		at := open[0]
		open = open[1:]
		out := map[int]bool{}
		for reg := range sets[at] {
			out[reg] = true
		}
		if reg := ir.Gives(f.Ops[at]); reg >= 0 {
			out[reg] = true
		}
		for _, next := range ir.Next(f.Ops[at], at) {
			if next < 0 || next >= n {
				return fmt.Errorf("%d leads to %d", at, next)
			}
			was := sets[next]
			if was == nil {
				sets[next] = map[int]bool{}
				for reg := range out {
					sets[next][reg] = true
				}
				open = append(open, next)
				continue
			}
			fewer := false
			for reg := range was {
				if !out[reg] {
					delete(was, reg)
					fewer = true
				}
			}
			if fewer {
				open = append(open, next)
			}
		}
	}
	for at, o := range f.Ops {
		for _, reg := range ir.Uses(o) {
			if sets[at] != nil && !sets[at][reg] {
				return fmt.Errorf("%d reads %d", at, reg)
			}
			if reg < 0 || reg >= f.Regs {
				return fmt.Errorf("%d has no register %d", at, reg)
			}
		}
	}
	return nil
}

// P17.4: the last instruction is IrReturn; each way stays within the instructions; only loops' jumps lead back, to their Head.
func ends(f api.Flat) error {
	n := len(f.Ops)
	if f.Ops[n-1].Code != api.IrReturn {
		return fmt.Errorf("no IrReturn")
	}
	for at, o := range f.Ops {
		for _, next := range ir.Next(o, at) {
			if next < 0 || next >= n {
				return fmt.Errorf("%d leads to %d", at, next)
			}
			isHead := func(l api.Loop) bool { return l.Head == next && at >= l.Head && at < l.End }
			if next <= at && !slices.ContainsFunc(f.Loops, isHead) {
				return fmt.Errorf("%d leads back to %d", at, next)
			}
		}
	}
	for i, l := range f.Loops {
		if l.Head < 0 || l.Head >= l.End || l.End > n {
			return fmt.Errorf("loop %v", l)
		}
		for _, x := range f.Loops[i+1:] {
			within := x.Head >= l.Head && x.End <= l.End
			if x.Head < l.Head || !within && x.Head < l.End {
				return fmt.Errorf("loops %v, %v", l, x)
			}
		}
	}
	return nil
}

func TestSetAheadAndEnds(t *testing.T) {
	loops := 0
	for _, jumps := range []bool{false, true} {
		each(t, 150, jumps, func(m made) {
			for _, c := range m.codes {
				f := flat(t, c)
				if err := setAhead(f); err != nil {
					t.Fatal(listing.Text(f), err)
				}
				if err := ends(f); err != nil {
					t.Fatal(listing.Text(f), err)
				}
				loops += len(f.Loops)
			}
		})
	}
	if loops < 300 {
		t.Error(loops)
	}
}

// registers is the letters of the fields that are registers.
func registers(code int) string {
	switch code {
	case api.IrConst, api.IrLoad, api.IrStore, api.IrRef, api.IrArg, api.IrStd, api.IrCheck, api.IrText, api.IrUnless:
		return "A"
	case api.IrMove, api.IrTurn, api.IrConv:
		return "AB"
	case api.IrDo:
		return "ABC"
	case api.IrLoadX, api.IrStoreX, api.IrRefX:
		return "AD"
	}
	return ""
}

// movedUp is instructions with registers and places moved up.
func movedUp(l []api.Op, regs, places int) []api.Op {
	l = slices.Clone(l)
	for i := range l {
		for _, letter := range registers(l[i].Code) {
			*map[rune]*int{'A': &l[i].A, 'B': &l[i].B, 'C': &l[i].C, 'D': &l[i].D}[letter] += regs
		}
		if l[i].Code == api.IrJump || l[i].Code == api.IrUnless {
			l[i].B += places
		}
	}
	return l
}

// P17.5: the instructions of a body are those of its first statements, and then those of the others.
func TestPartByPart(t *testing.T) {
	parts := 0
	each(t, 300, false, func(m made) {
		for _, c := range m.codes {
			k := m.r.Intn(len(c.Body) + 1)
			first, rest := c, c
			first.Body, rest.Body = c.Body[:k], c.Body[k:]
			a, b, f := flat(t, first), flat(t, rest), flat(t, c)
			n := len(a.Ops) - 1
			want := append(a.Ops[:n:n], movedUp(b.Ops, a.Regs, n)...)
			loops := slices.Clone(a.Loops)
			for _, l := range b.Loops {
				loops = append(loops, api.Loop{Head: l.Head + n, End: l.End + n, Times: l.Times})
			}
			if !slices.Equal(f.Ops, want) || f.Regs != a.Regs+b.Regs || !slices.Equal(f.Loops, loops) {
				t.Fatal(c.Name, k, listing.Text(f))
			}
			if n > 0 && len(b.Ops) > 1 {
				parts++
			}
		}
	})
	if parts < 300 {
		t.Error(parts)
	}
}

// deepCopy is a value in memory of its own, its lists with spare room that has something in it.
func deepCopy(v reflect.Value) reflect.Value {
	out := reflect.New(v.Type()).Elem()
	out.Set(v)
	switch v.Kind() {
	case reflect.Slice:
		l := reflect.MakeSlice(v.Type(), v.Len()+1, v.Len()+1)
		for i := range v.Len() {
			l.Index(i).Set(deepCopy(v.Index(i)))
		}
		if v.Len() > 0 {
			l.Index(v.Len()).Set(l.Index(0))
		}
		out.Set(l.Slice(0, v.Len()))
	case reflect.Struct:
		for i := range v.NumField() {
			out.Field(i).Set(deepCopy(v.Field(i)))
		}
	}
	return out
}

// What is handed in stays; what is answered is memory of its own, and the same each time.
func TestMemory(t *testing.T) {
	each(t, 60, true, func(m made) {
		for _, c := range m.codes {
			own := deepCopy(reflect.ValueOf(c)).Interface().(api.Code)
			before := fmt.Sprintf("%#v %#v", own, own.Body[:cap(own.Body)])
			a, b := flat(t, own), flat(t, own)
			if fmt.Sprintf("%#v %#v", own, own.Body[:cap(own.Body)]) != before || !reflect.DeepEqual(a, b) {
				t.Fatal(c.Name)
			}
			if &a.Ops[:1][0] == &b.Ops[:1][0] || len(a.Loops) > 0 && &a.Loops[0] == &b.Loops[0] {
				t.Fatal("shared")
			}
			for i := range a.Ops[:cap(a.Ops)] {
				a.Ops[:cap(a.Ops)][i] = api.Op{}
			}
			for i := range a.Loops[:cap(a.Loops)] {
				a.Loops[:cap(a.Loops)][i] = api.Loop{}
			}
			if !reflect.DeepEqual(b, flat(t, own)) {
				t.Fatal("shared")
			}
		}
	})
}

// fieldsOf is all fields and lists in a value, however deep.
func fieldsOf(v reflect.Value, found *[]reflect.Value) {
	switch v.Kind() {
	case reflect.Slice:
		*found = append(*found, v)
		for i := range v.Len() {
			fieldsOf(v.Index(i), found)
		}
	case reflect.Struct:
		for i := range v.NumField() {
			fieldsOf(v.Field(i), found)
		}
	default:
		*found = append(*found, v)
	}
}

// shake changes a part of a value, by chance.
func shake(r *rand.Rand, v reflect.Value) {
	var l []reflect.Value
	fieldsOf(v, &l)
	switch v := l[r.Intn(len(l))]; v.Kind() {
	case reflect.Slice:
		n := v.Len()
		switch pick := r.Intn(3); {
		case n == 0:
		case pick == 0:
			v.Set(v.Slice(0, n-1))
		case pick == 1:
			v.Set(reflect.Append(v.Slice3(0, n, n), v.Index(r.Intn(n))))
		default:
			v.Set(reflect.Zero(v.Type()))
		}
	case reflect.String:
		v.SetString([]string{"", "X0", "X1"}[r.Intn(3)])
	case reflect.Int:
		v.SetInt([]int64{-1 << 63, -9, -1, 0, 1, 2, 3, 4, 5, 6, 7, 10, 11, 12, 15, 16, 17, 18, 19, 20, 21, 22, 23, 24, 300, 1<<63 - 1}[r.Intn(26)])
	case reflect.Uint8:
		v.SetUint(uint64(r.Intn(256) >> r.Intn(8)))
	case reflect.Uint64:
		v.SetUint(r.Uint64() >> r.Intn(64))
	}
}

// Whatever a code is, the call ends, with IrReturn behind it all.
func TestByHand(t *testing.T) {
	each(t, 300, true, func(m made) {
		for _, c := range m.codes {
			c = deepCopy(reflect.ValueOf(c)).Interface().(api.Code)
			for range 1 + m.r.Intn(5) {
				shake(m.r, reflect.ValueOf(&c).Elem())
			}
			f := flat(t, c)
			if f.Ops[len(f.Ops)-1].Code != api.IrReturn || f.Name != c.Name || f.Base != c.Base || f.Cells != c.Cells || f.What != c.What {
				t.Fatal(c.Name)
			}
		}
	})
}
