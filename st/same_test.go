package st_test

import (
	"reflect"
	"slices"
	"strings"
	"testing"

	"relay/api"
	"relay/st"
	"relay/value"
)

// full is a statement in which no field is zero.
func full() api.Stmt {
	e := fullExpr()
	return api.Stmt{
		Op: api.StCall, At: 1, Name: "A", Num: 2, Exprs: []api.Expr{e, e}, Names: []string{"B", "C"}, Outs: []api.Expr{e}, OutNames: []string{"D"}, Ranges: []api.Range{{Lo: 1, Hi: 2}},
		Body: []api.Stmt{{Op: api.StEmpty, At: 3}}, Else: []api.Stmt{{Op: api.StExit}, {Op: api.StReturn}}, Kind: api.KInt, Area: 3, Ref: 4,
	}
}

func fullExpr() api.Expr {
	return api.Expr{
		Op: api.ExCall, At: 1, Name: "A", Field: "B", Value: api.Value{Kind: api.KString, Bits: 1, Text: "x"}, Kids: []api.Expr{{Op: api.ExName, At: 3, Name: "A"}, {Op: api.ExLit, Value: value.Lreal(0)}}, Names: []string{"B", "C"},
		Kind: api.KInt, Area: 2, Ref: 3, From: 4, To: 5,
	}
}

// P5.3: each field counts but those that are said.
func TestSame(t *testing.T) {
	aside := " At Kind Area Ref From To "
	base := []api.Stmt{full()}
	if !st.Same(base, []api.Stmt{full()}) || !st.Same(nil, nil) || !st.Same(nil, []api.Stmt{}) {
		t.Error("not the same as itself")
	}
	for i := range reflect.TypeFor[api.Stmt]().NumField() {
		field := reflect.TypeFor[api.Stmt]().Field(i).Name
		for n, s := range changedStmts(i) {
			want := strings.Contains(aside, " "+field+" ")
			if st.Same(base, []api.Stmt{s}) != want || st.Same([]api.Stmt{s}, base) != want {
				t.Error(field, n)
			}
			wrap := func(s api.Stmt) []api.Stmt {
				return []api.Stmt{{Op: api.StIf, Body: []api.Stmt{{Op: api.StIf, Else: []api.Stmt{s}}}}}
			}
			if st.Same(wrap(base[0]), wrap(s)) != want {
				t.Error(field, n)
			}
		}
	}
	for i := range reflect.TypeFor[api.Expr]().NumField() {
		field := reflect.TypeFor[api.Expr]().Field(i).Name
		for n, e := range changedExprs(i) {
			want := strings.Contains(aside, " "+field+" ")
			for _, wrap := range []func(api.Expr) api.Stmt{
				func(e api.Expr) api.Stmt { return api.Stmt{Exprs: []api.Expr{{}, e}} },
				func(e api.Expr) api.Stmt { return api.Stmt{Outs: []api.Expr{e}} },
				func(e api.Expr) api.Stmt { return api.Stmt{Exprs: []api.Expr{{Op: api.OpNeg, Kids: []api.Expr{e}}}} },
			} {
				if st.Same([]api.Stmt{wrap(fullExpr())}, []api.Stmt{wrap(e)}) != want {
					t.Error(field, n)
				}
			}
		}
	}
}

// changedStmts is the full statement with other things in a field.
func changedStmts(i int) []api.Stmt {
	var l []api.Stmt
	for _, v := range others(reflect.ValueOf(full()).Field(i)) {
		s := full()
		reflect.ValueOf(&s).Elem().Field(i).Set(v)
		l = append(l, s)
	}
	return l
}

func changedExprs(i int) []api.Expr {
	var l []api.Expr
	for _, v := range others(reflect.ValueOf(fullExpr()).Field(i)) {
		e := fullExpr()
		reflect.ValueOf(&e).Elem().Field(i).Set(v)
		l = append(l, e)
	}
	return l
}

// others is values of a type that are not the one that is told.
func others(v reflect.Value) []reflect.Value {
	made := reflect.New(v.Type()).Elem()
	switch v.Kind() {
	case reflect.Int:
		made.SetInt(v.Int() + 7)
	case reflect.Uint8:
		made.SetUint(v.Uint() + 1)
	case reflect.Uint64:
		made.SetUint(v.Uint() ^ 1<<63)
	case reflect.String:
		made.SetString(v.String() + "X")
		return []reflect.Value{made, reflect.Zero(v.Type())}
	case reflect.Struct:
		var l []reflect.Value
		for i := range v.NumField() {
			for _, x := range others(v.Field(i)) {
				c := reflect.New(v.Type()).Elem()
				c.Set(v)
				c.Field(i).Set(x)
				l = append(l, c)
			}
		}
		return l
	case reflect.Slice:
		longer := reflect.Append(v.Slice3(0, v.Len(), v.Len()), v.Index(0))
		last := reflect.MakeSlice(v.Type(), 0, 9)
		last = reflect.Append(last, reflect.Zero(v.Type().Elem()))
		return []reflect.Value{v.Slice(1, v.Len()), longer, reflect.AppendSlice(last, v.Slice(1, v.Len())), reflect.Zero(v.Type())}
	}
	return []reflect.Value{made}
}

func TestSameNumbers(t *testing.T) {
	for op := range api.NumSt {
		a, b := []api.Stmt{{Op: op, Num: 1}}, []api.Stmt{{Op: op, Num: 2}}
		if st.Same(a, b) != (op == api.StFor) {
			t.Error(op)
		}
	}
	lit := func(v api.Value) []api.Stmt { return []api.Stmt{{Exprs: []api.Expr{{Op: api.ExLit, Value: v}}}} }
	minus, _ := value.Turn(api.OpNeg, value.Lreal(0))
	nan, _ := value.Reckon(api.OpDiv, value.Lreal(0), value.Lreal(0))
	if st.Same(lit(value.Lreal(0)), lit(minus)) || !st.Same(lit(nan), lit(nan)) || st.Same(lit(value.Bool(true)), lit(api.Value{Bits: 1})) {
		t.Error("floats are told apart by their bits")
	}
	a, b := []api.Stmt{{Op: api.StFor, Num: 1}}, []api.Stmt{{Op: api.StWhile, Num: 1}}
	if st.Same(a, b) || st.Same(a, nil) || st.Same(a, append(slices.Clone(a), a...)) {
		t.Error("others are the same")
	}
}

// Same ends with deep trees, and with such as lead back into themselves.
func TestSameDeep(t *testing.T) {
	deep := func(last string) []api.Stmt {
		e := name(0, last)
		for range 30000 {
			e = turned(api.OpNeg, 0, e)
		}
		s := []api.Stmt{{Op: api.StSet, Exprs: []api.Expr{e}}}
		for range 30000 {
			s = []api.Stmt{{Op: api.StIf, Else: s}}
		}
		return s
	}
	if !st.Same(deep("A"), deep("A")) || st.Same(deep("A"), deep("B")) {
		t.Error("deep trees")
	}
	round := func() []api.Stmt {
		l := []api.Stmt{{Op: api.StIf}}
		l[0].Body = l
		return l
	}
	st.Same(round(), round())
	ring := func() []api.Stmt {
		l := []api.Expr{{Op: api.OpNeg}}
		l[0].Kids = l
		return []api.Stmt{{Op: api.StSet, Exprs: l}}
	}
	st.Same(ring(), ring())
	if st.Same(round(), nil) {
		t.Error("a round tree is none")
	}
}

// regions is the memory of all lists in a value, their spare room too.
func regions(v reflect.Value, found *[][2]uintptr) {
	switch v.Kind() {
	case reflect.Slice:
		if v.Cap() > 0 {
			from := v.Pointer()
			*found = append(*found, [2]uintptr{from, from + uintptr(v.Cap())*v.Type().Elem().Size()})
		}
		for i := range v.Len() {
			regions(v.Index(i), found)
		}
	case reflect.Struct:
		for i := range v.NumField() {
			regions(v.Field(i), found)
		}
	}
}

// apart tells whether no two lists of some values share memory.
func apart(values ...any) bool {
	var l [][2]uintptr
	for _, v := range values {
		regions(reflect.ValueOf(v), &l)
	}
	slices.SortFunc(l, func(a, b [2]uintptr) int { return slices.Compare(a[:], b[:]) })
	for i := 1; i < len(l); i++ {
		if l[i][0] < l[i-1][1] {
			return false
		}
	}
	return true
}

// What is handed in stays, the room behind its end too; what is answered is memory of its own.
func TestMemory(t *testing.T) {
	for seed := range int64(400) {
		src, _ := program(seed, seed%2 == 0)
		words := scanned(t, src)
		room := append(slices.Clone(words), api.Token{Text: "ROOM"}, api.Token{Text: "ROOM"})
		before := slices.Clone(room)
		a, err := st.Body(room[:len(words)], len(src))
		b, wrong := st.Body(room[:len(words)], len(src))
		if err != nil || wrong != nil || !slices.Equal(room, before) || !apart(a, b, room) {
			t.Fatalf("%q", src)
		}
		st.Print(a)
		st.Same(a, b)
		if !alike(a, parsed(t, src)) || !alike(b, a) {
			t.Fatalf("%q: changed", src)
		}
		m := newMaker(seed, false)
		m.expr(3)
		words = scanned(t, m.b.String())
		x, _, _ := st.One(words, 0)
		y, _, _ := st.One(words, 0)
		st.PrintExpr(x)
		if !apart(x, y, words) || !slices.Equal(words, scanned(t, m.b.String())) || !reflect.DeepEqual(x, y) {
			t.Fatalf("%q", m.b.String())
		}
	}
}
