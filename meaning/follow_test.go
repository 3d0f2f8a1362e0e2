package meaning_test

import (
	"fmt"
	"math/rand"
	"reflect"
	"slices"
	"strings"
	"testing"

	"relay/api"
	"relay/layout"
	"relay/meaning"
	"relay/samples"
	"relay/value"
)

// instance is where a POU lies.
type instance struct{ pou, base int }

// chance is a plant by chance, with values by chance, and the instances that can be run in it.
type chance struct {
	*plant
	r *rand.Rand
	l []instance
}

func (x chance) text() string {
	text := ""
	for _, u := range x.p.Pous {
		text += u.Name + ":" + u.Text
	}
	return text
}

// each hands on n plants by chance.
func each(t *testing.T, n int, to func(x chance)) {
	t.Helper()
	for seed := range n {
		r := rand.New(rand.NewSource(int64(seed)))
		x := chance{plant: built(t, samples.Sources(r.Intn)...), r: r}
		for i, c := range x.cells {
			x.mem[i] = x.some(c)
		}
		for i := range x.p.Pous {
			if base, is := layout.Base(x.p, i); is {
				x.add(i, base)
			}
		}
		for i, run := range x.p.Runs {
			pou, _ := layout.Pou(x.p, run.Pou)
			base, _ := layout.Run(x.p, i)
			x.add(pou, base)
		}
		to(x)
	}
}

// some is a value by chance that a cell may have.
func (x chance) some(c api.Cell) api.Value {
	if c.Kind == api.KRef || x.r.Intn(3) == 0 {
		return c.Init
	}
	v, fault := value.Int(c.Kind, x.r.Intn(20)-5)
	if fault != 0 || value.Fits(api.Type{Kind: c.Kind, Sub: c.Sub, Lo: c.Lo, Hi: c.Hi, Max: c.Max}, v) != 0 {
		return c.Init
	}
	return v
}

// add takes in an instance and those within it; its VarInOuts refer to cells of their types, if there are some: else it can't be run.
func (x *chance) add(pou, base int) {
	can := true
	for _, v := range x.p.Pous[pou].Vars {
		at, _, _ := layout.Find(x.p, pou, v.Name)
		if inner, is := layout.Pou(x.p, v.Type.Block); is && x.p.Pous[inner].What == api.PouBlock {
			x.add(inner, base+at)
		}
		if v.Class != api.VarInOut {
			continue
		}
		var fit []int
		for i, c := range x.cells {
			if t := v.Type; c.Kind == t.Kind && c.Sub == t.Sub && c.Lo == t.Lo && c.Hi == t.Hi && c.Max == t.Max {
				fit = append(fit, i)
			}
		}
		if can = can && len(fit) > 0; len(fit) > 0 {
			x.mem[base+at].Bits = uint64(fit[x.r.Intn(len(fit))])
		}
	}
	if can {
		x.l = append(x.l, instance{pou, base})
	}
}

// exprs hands on all expressions in statements, those of places too.
func exprs(l []api.Stmt, to func(e api.Expr)) {
	var inner func(e api.Expr)
	inner = func(e api.Expr) {
		to(e)
		for _, k := range e.Kids {
			inner(k)
		}
	}
	for _, s := range l {
		for _, e := range s.Exprs {
			inner(e)
		}
		exprs(s.Body, to)
		exprs(s.Else, to)
	}
}

// stmts hands on all statements, the inner ones too.
func stmts(l []api.Stmt, to func(s api.Stmt)) {
	for _, s := range l {
		to(s)
		stmts(s.Body, to)
		stmts(s.Else, to)
	}
}

// Runs are as the model has them: the cells, the rules and the fault, with few rules and with many; several activations one behind the other.
func TestModel(t *testing.T) {
	faults, total := map[int]int{}, 0
	each(t, 1200, func(x chance) {
		for _, i := range x.l {
			mem, now := x.mem, 0
			for range 3 {
				most := []int{x.r.Intn(40), x.r.Intn(400), 20000, unbounded}[x.r.Intn(4)]
				want, rules, fault := modelRun(x.codes, i.pou, i.base, now, x.cells, mem, most)
				after, n, f := meaning.Run(x.codes, i.pou, i.base, now, x.cells, mem, most)
				if f != fault || n != rules || !slices.Equal(after, want) {
					t.Fatal(x.text(), i, most, n, f, "not", rules, fault)
				}
				faults[f]++
				total += n
				if f != 0 {
					break
				}
				mem, now = after, now+x.r.Intn(1e9)
			}
		}
	})
	for f := api.FaultNone; f <= api.FaultSteps; f++ {
		if (faults[f] < 5) != (f == api.FaultKind || f == api.FaultRef) {
			t.Error(f, faults, total)
		}
	}
}

// Expressions are as the model has them; P16.5: what they are without a fault is of their Kind.
func TestModelValues(t *testing.T) {
	each(t, 200, func(x chance) {
		for _, i := range x.l {
			exprs(x.codes[i.pou].Body, func(e api.Expr) {
				most := []int{x.r.Intn(10), 20000}[x.r.Intn(2)]
				want, rules, fault := modelValue(x.codes, e, i.base, 7, x.cells, x.mem, most)
				v, n, f := meaning.Value(x.codes, e, i.base, 7, x.cells, x.mem, most)
				if v != want || n != rules || f != fault || f == 0 && v.Kind != e.Kind {
					t.Fatal(x.text(), e, v, n, f, "not", want, rules, fault)
				}
			})
		}
	})
}

// P16.3: with a greater most a run that had rules enough comes to the same; P16.7: and each time.
func TestMoreRules(t *testing.T) {
	each(t, 300, func(x chance) {
		for _, i := range x.l {
			after, rules, fault := meaning.Run(x.codes, i.pou, i.base, 3, x.cells, x.mem, unbounded)
			for _, most := range []int{rules, rules + 1, rules + x.r.Intn(1000), 1<<63 - 1} {
				// A run that stops for want of room for calls has rules enough, too.
				l, n, f := meaning.Run(x.codes, i.pou, i.base, 3, x.cells, slices.Clone(x.mem), most)
				if f != fault || n != rules || !slices.Equal(l, after) {
					t.Fatal(x.text(), most, n, f, rules, fault)
				}
			}
			if rules > 0 {
				if l, n, f := meaning.Run(x.codes, i.pou, i.base, 3, x.cells, x.mem, rules-1); l != nil || n != rules-1 || f != api.FaultSteps {
					t.Fatal(x.text(), n, f)
				}
			}
		}
	})
}

// P16.4: the cells behind a run have their Kinds, and may be; those with bounds lie within them.
func TestKindsStay(t *testing.T) {
	each(t, 600, func(x chance) {
		for _, i := range x.l {
			after, _, fault := meaning.Run(x.codes, i.pou, i.base, 3, x.cells, x.mem, unbounded)
			if fault == 0 && len(after) != len(x.cells) {
				t.Fatal(len(after))
			}
			for k, v := range after {
				c := x.cells[k]
				if v.Kind != c.Kind || v.Kind != api.KRef && value.Fits(api.Type{Kind: c.Kind, Sub: c.Sub, Lo: c.Lo, Hi: c.Hi, Max: c.Max}, v) != 0 {
					t.Fatal(x.text(), k, v)
				}
			}
		}
	})
}

// P16.6: without StSet, StFor, StCall and calls of the project's functions no cell changes.
func TestWhatIsNotSetStays(t *testing.T) {
	ran := 0
	each(t, 500, func(x chance) {
		for k := range x.codes {
			x.codes[k].Body = still(x.codes[k].Body)
		}
		for _, i := range x.l {
			after, rules, fault := meaning.Run(x.codes, i.pou, i.base, 3, x.cells, x.mem, unbounded)
			if fault == 0 && !slices.Equal(after, x.mem) {
				t.Fatal(x.text())
			}
			if fault == 0 && rules > 3 {
				ran++
			}
		}
	})
	if ran < 200 {
		t.Error(ran)
	}
}

// still is statements without those that set something; a StSet becomes a StIf that asks something of its right side's kind.
func still(l []api.Stmt) []api.Stmt {
	var out []api.Stmt
	for _, s := range l {
		sets := s.Op == api.StFor || s.Op == api.StCall
		var e *api.Expr
		if s.Op == api.StSet {
			e = &s.Exprs[1]
			sets = e.Kind == api.KRef
			s = api.Stmt{Op: api.StIf, Exprs: []api.Expr{{Op: api.OpEq, Kind: api.KBool, Kids: []api.Expr{*e, *e}}}}
		}
		exprs([]api.Stmt{{Exprs: s.Exprs}}, func(e api.Expr) { sets = sets || e.Op == api.ExCall && e.Area != 0 })
		if !sets {
			s.Body, s.Else = still(s.Body), still(s.Else)
			out = append(out, s)
		}
	}
	return out
}

// What is handed in stays, spare room too; what is answered is memory of its own.
func TestMemory(t *testing.T) {
	each(t, 60, func(x chance) {
		roomy := append(slices.Clone(x.mem), api.Value{Kind: api.KInt, Bits: 7}, api.Value{})[:len(x.mem)]
		before := fmt.Sprint(roomy[:cap(roomy)], x.cells, x.codes)
		for _, i := range x.l {
			a, _, fault := meaning.Run(x.codes, i.pou, i.base, 3, x.cells, roomy, unbounded)
			b, _, _ := meaning.Run(x.codes, i.pou, i.base, 3, x.cells, roomy, unbounded)
			if fault != 0 || len(a) == 0 {
				continue
			}
			for k := range a[:cap(a)] {
				a[:cap(a)][k].Bits = 99
			}
			if &a[0] == &b[0] || &a[0] == &roomy[0] || b[0] != func() api.Value {
				c, _, _ := meaning.Run(x.codes, i.pou, i.base, 3, x.cells, roomy, unbounded)
				return c[0]
			}() {
				t.Fatal("shared")
			}
			exprs(x.codes[i.pou].Body, func(e api.Expr) { meaning.Value(x.codes, e, i.base, 3, x.cells, roomy, 100) })
		}
		if fmt.Sprint(roomy[:cap(roomy)], x.cells, x.codes) != before {
			t.Fatal("changed")
		}
	})
}

// parts is all fields and lists in a value, however deep.
func parts(v reflect.Value, found *[]reflect.Value) {
	switch v.Kind() {
	case reflect.Slice:
		*found = append(*found, v)
		for i := range v.Len() {
			parts(v.Index(i), found)
		}
	case reflect.Struct:
		for i := range v.NumField() {
			parts(v.Field(i), found)
		}
	default:
		*found = append(*found, v)
	}
}

// shake changes a part of a value, by chance.
func shake(r *rand.Rand, v reflect.Value) {
	var l []reflect.Value
	parts(v, &l)
	switch v := l[r.Intn(len(l))]; v.Kind() {
	case reflect.Slice:
		n := v.Len()
		switch pick := r.Intn(3); {
		case n == 0:
		case pick == 0:
			v.Set(v.Slice(0, n-1))
		case pick == 1:
			v.Set(reflect.Append(v.Slice3(0, n, n), v.Index(r.Intn(n))))
		default:
			v.Set(reflect.Zero(v.Type()))
		}
	case reflect.String:
		v.SetString([]string{"", "L", strings.Repeat("x", 300)}[r.Intn(3)])
	case reflect.Int:
		v.SetInt([]int64{-1 << 63, -9, -1, 0, 1, 2, 3, 4, 5, 6, 7, 10, 11, 12, 15, 16, 17, 18, 19, 20, 21, 22, 23, 24, 300, 1<<63 - 1}[r.Intn(26)])
	case reflect.Uint8:
		v.SetUint(uint64(r.Intn(256) >> r.Intn(8)))
	case reflect.Uint64:
		v.SetUint(r.Uint64() >> r.Intn(64))
	case reflect.Bool:
		v.SetBool(!v.Bool())
	}
}

// Whatever codes, cells, values and numbers are, each call ends; and the kinds of cells stay.
func TestByHand(t *testing.T) {
	faults := map[int]int{}
	each(t, 1200, func(x chance) {
		for range 1 + x.r.Intn(4) {
			shake(x.r, reflect.ValueOf(&x.codes).Elem())
		}
		if x.r.Intn(4) == 0 {
			shake(x.r, reflect.ValueOf(&x.cells).Elem())
		}
		if x.r.Intn(4) == 0 {
			shake(x.r, reflect.ValueOf(&x.mem).Elem())
		}
		for _, i := range x.l {
			if x.r.Intn(8) == 0 {
				i.base = x.r.Intn(len(x.mem) + 3)
			}
			after, rules, fault := meaning.Run(x.codes, i.pou, i.base, x.r.Intn(99), x.cells, x.mem, 5000)
			if rules < 0 || rules > 5000 || (fault != 0 || len(x.cells) == 0) != (len(after) == 0) {
				t.Fatal(len(after), rules, fault)
			}
			for k, v := range after {
				if v.Kind != x.cells[k].Kind || v.Kind != api.KRef && !value.May(v) {
					t.Fatal(k, v)
				}
			}
			faults[fault]++
			if i.pou < len(x.codes) {
				exprs(x.codes[i.pou].Body, func(e api.Expr) {
					if v, _, f := meaning.Value(x.codes, e, i.base, 5, x.cells, x.mem, 500); f != 0 && v != (api.Value{}) {
						t.Fatal(v, f)
					}
				})
			}
		}
	})
	if faults[0] < 100 || faults[api.FaultKind] < 100 || faults[api.FaultRef] < 20 {
		t.Error(faults)
	}
}

// Deep rows of operations, in each of as many runs as may lie within one another.
func TestDeepRows(t *testing.T) {
	x := built(t, deepCalls(api.MaxCalls-1, "PROGRAM p VAR i : INT; END_VAR i := fb(); END_PROGRAM"))
	zero, _ := value.Int(api.KInt, 0)
	for k := range x.codes {
		l := x.codes[k].Body
		e := l[len(l)-1].Exprs[1]
		for range 1 << 16 {
			e = api.Expr{Op: api.OpAdd, Kind: api.KInt, Kids: []api.Expr{e, {Op: api.ExLit, Kind: api.KInt, Value: zero}}}
		}
		l[len(l)-1].Exprs[1] = e
	}
	after, rules, fault := x.run(unbounded)
	if fault != 0 || after[x.at("I")].Bits != 1 || rules != 16*(2<<16)+2+15*4 {
		t.Error(rules, fault)
	}
}
