package sfc_test

import (
	"math/rand"
	"reflect"
	"slices"
	"strings"
	"testing"

	"relay/api"
	"relay/sfc"
	"relay/value"
)

// P8.3: the form.
func TestForm(t *testing.T) {
	for src, want := range map[string]string{
		"": "",
		"initial_step a:x(n);x(l,t#5s);end_step step b:end_step":                                                                       "INITIAL_STEP A:\n  X(N);\n  X(L, T#5S);\nEND_STEP\nSTEP B:\nEND_STEP\n",
		"transition t from(a,b)to(c):=x&y;end_transition transition from a to(b,c):=not(x or y);end_transition":                        "TRANSITION T FROM (A, B) TO C := X AND Y;\nEND_TRANSITION\nTRANSITION FROM A TO (B, C) := NOT (X OR Y);\nEND_TRANSITION\n",
		"action x:end_action action y:n:=n+1;if a then ;end_if;end_action":                                                             "ACTION X:\nEND_ACTION\nACTION Y:\n  N := N + 1;\n  IF A THEN\n    ;\n  END_IF;\nEND_ACTION\n",
		"ACTION x: END_ACTION TRANSITION FROM a TO a := TRUE; END_TRANSITION STEP a: x(SD, T#0s); END_STEP ACTION y: ; END_ACTION":     "STEP A:\n  X(SD, T#0S);\nEND_STEP\nTRANSITION FROM A TO A := TRUE;\nEND_TRANSITION\nACTION X:\nEND_ACTION\nACTION Y:\n  ;\nEND_ACTION\n",
		"STEP a: x(s); x(R); x(p); x(P0); x(P1); x(D, T#1ms); x(DS, T#1d); x(SL, T#1.5h); END_STEP":                                    "STEP A:\n  X(S);\n  X(R);\n  X(P);\n  X(P0);\n  X(P1);\n  X(D, T#1MS);\n  X(DS, T#1D);\n  X(SL, T#1H30M);\nEND_STEP\n",
		"TRANSITION FROM a TO b := INT#16#F + a[b.c] >= -5; END_TRANSITION ACTION x: {bound 3}while a do t(q=>b);end_while;END_ACTION": "TRANSITION FROM A TO B := INT#15 + A[B.C] >= -5;\nEND_TRANSITION\nACTION X:\n  {BOUND 3} WHILE A DO\n    T(Q => B);\n  END_WHILE;\nEND_ACTION\n",
	} {
		if got := sfc.Print(parsed(t, src)); got != want {
			t.Errorf("%q:\n got %q\nwant %q", src, got, want)
		}
	}
}

// plain is a chart with a text; no is what is put into it that has none.
func plain(no ...any) api.Chart {
	c := api.Chart{Steps: []api.Step{{Name: "A", Initial: true}}, Trans: []api.Trans{{From: []string{"A"}, To: []string{"A"}, Cond: name(0, "B")}}, Actions: []api.Action{{Name: "X"}}}
	for _, x := range no {
		switch x := x.(type) {
		case api.Step:
			c.Steps = append(c.Steps, x)
		case api.Link:
			c.Steps = append(c.Steps, api.Step{Name: "S", Links: []api.Link{{Name: "X", Qual: "N"}, x}})
		case api.Trans:
			c.Trans = append(c.Trans, x)
		case api.Expr:
			c.Trans = append(c.Trans, api.Trans{From: []string{"A"}, To: []string{"A"}, Cond: x})
		case api.Action:
			c.Actions = append(c.Actions, x)
		case []api.Stmt:
			c.Actions = append(c.Actions, api.Action{Name: "Y", Body: x})
		}
	}
	return c
}

// P8.3: literals without a printed form, and charts made by hand that have no text.
func TestNoForm(t *testing.T) {
	a, five := name(0, "A"), number(0, 5)
	loop := []api.Expr{{Op: api.OpNot}}
	loop[0].Kids = loop
	round := []api.Stmt{{Op: api.StIf, Exprs: []api.Expr{a}}}
	round[0].Body = round
	side := []string{"A"}
	list := []any{
		api.Link{}, api.Link{Qual: "N"}, api.Link{Name: "X"}, api.Link{Name: "X", Qual: "Q"}, api.Link{Name: "X", Qual: "n"}, api.Link{Name: "X", Qual: "N", Time: 5}, api.Link{Name: "X", Qual: "S", Time: -5}, api.Link{Name: "X", Qual: "L", Time: -1}, api.Link{Name: "X", Qual: "D", Time: -1 << 63}, api.Link{Name: "X", Qual: "l", Time: 5}, api.Link{Name: "X", Qual: "N); Y(N"}, api.Link{Name: "X", Qual: "L, T#5S"}, api.Link{Name: "X(N); X", Qual: "N"}, api.Link{Name: "X", Qual: " N"}, api.Link{Name: "X", Qual: "Q", Time: 5},
		api.Step{}, api.Step{Name: "A"}, api.Step{Name: "S", Links: slices.Repeat([]api.Link{{Name: "X", Qual: "N"}}, api.MaxLinks+1)}, api.Step{Name: "S", Links: make([]api.Link, 1<<17)},
		api.Trans{}, api.Trans{From: side, To: side}, api.Trans{From: side, Cond: a}, api.Trans{To: side, Cond: a}, api.Trans{From: []string{}, To: side, Cond: a}, api.Trans{From: side, To: []string{"A", "A"}, Cond: a}, api.Trans{From: []string{"A", "B", "A"}, To: side, Cond: a}, api.Trans{From: strings.Fields("A B C D E F G H I"), To: side, Cond: a}, api.Trans{From: side, To: strings.Fields("A B C D E F G H I"), Cond: a}, api.Trans{From: []string{"(A)"}, To: side, Cond: a}, api.Trans{From: []string{"A, B"}, To: side, Cond: a}, api.Trans{From: []string{"A", ""}, To: side, Cond: a}, api.Trans{From: make([]string, 1<<17), To: side, Cond: a}, api.Trans{Name: "FROM", From: side, To: side, Cond: a}, api.Trans{Name: " ", From: side, To: side, Cond: a},
		api.Expr{}, loop[0], api.Expr{Op: api.ExLit, Value: value.Lreal(1)}, api.Expr{Op: api.ExLit, Value: value.Zero(api.KTime)}, api.Expr{Op: api.OpEq, Kids: []api.Expr{a, {Op: api.ExLit, Value: value.Zero(api.KString)}}}, api.Expr{Op: api.ExName, Name: "a"}, api.Expr{Op: api.ExName, Name: "_X1"}, api.Expr{Op: api.ExConv, Kids: []api.Expr{a}},
		api.Action{}, api.Action{Name: "X"}, api.Action{Name: "Y", Body: make([]api.Stmt, 1)}, []api.Stmt{{}}, round, []api.Stmt{{Op: api.StLabel, Name: "L"}}, []api.Stmt{{Op: api.StJump, Name: "L"}}, []api.Stmt{{Op: api.StSet, Exprs: []api.Expr{five, five}}}, []api.Stmt{{Op: api.StSet, Exprs: []api.Expr{a, {Op: api.ExLit, Value: value.Lreal(1)}}}}, []api.Stmt{{Op: api.StWhile, Exprs: []api.Expr{a}}}, slices.Repeat([]api.Stmt{{Op: api.StEmpty}}, api.MaxTokens),
	}
	for _, s := range []string{"", "a", "_A", "IF", "STEP", "TRUE", "5", "A B", " Y", "Y ", "Y.Z", "Y: END_STEP STEP Z", "ABCDEFGHIJKLMNOPQRSTUVWXY", "INT", strings.Repeat("A", api.MaxSource)} {
		list = append(list, api.Step{Name: s}, api.Action{Name: s}, api.Link{Name: s, Qual: "N"}, api.Link{Name: "X", Qual: s}, api.Trans{From: []string{s}, To: side, Cond: a}, api.Trans{From: side, To: []string{"Y1", s}, Cond: a})
		if s != "" {
			list = append(list, api.Trans{Name: s, From: side, To: side, Cond: a})
		}
	}
	for i, no := range list {
		if text := sfc.Print(plain(no)); text != "" {
			t.Errorf("%d: %.300q", i, text)
		}
	}
	if text := sfc.Print(plain()); text != "INITIAL_STEP A:\nEND_STEP\nTRANSITION FROM A TO A := B;\nEND_TRANSITION\nACTION X:\nEND_ACTION\n" {
		t.Errorf("%q", text)
	}
	for _, src := range []string{"TRANSITION FROM a TO b := c > 1.5; END_TRANSITION", "TRANSITION FROM a TO b := s.t > T#1s; END_TRANSITION", "ACTION x: a := 'x'; END_ACTION", "ACTION x: a := b; IF a THEN d := D#2000-01-01; END_IF; END_ACTION STEP a: END_STEP"} {
		if text := sfc.Print(parsed(t, src)); text != "" {
			t.Errorf("%q: %q", src, text)
		}
	}
}

// P8.3: as much as can be, and one more; a text that would be too long.
func TestGreatForm(t *testing.T) {
	c := parsed(t, numbered("STEP s%: END_STEP ", api.MaxSteps)+numbered("ACTION s%: END_ACTION ", api.MaxSteps)+numbered("TRANSITION FROM a TO a := b; END_TRANSITION ", api.MaxTrans))
	c.Steps[0].Links = slices.Repeat([]api.Link{{Name: "X", Qual: "N"}}, api.MaxLinks)
	if text := sfc.Print(c); !sfc.Same(parsed(t, text), c) {
		t.Errorf("%q", text)
	}
	more := func(change func(*api.Chart)) {
		t.Helper()
		d := c
		change(&d)
		if text := sfc.Print(d); text != "" {
			t.Errorf("%.100q", text)
		}
	}
	more(func(c *api.Chart) { c.Steps = append(slices.Clone(c.Steps), api.Step{Name: "X"}) })
	more(func(c *api.Chart) { c.Actions = append(slices.Clone(c.Actions), api.Action{Name: "X"}) })
	more(func(c *api.Chart) { c.Trans = append(slices.Clone(c.Trans), c.Trans[0]) })
	more(func(c *api.Chart) { c.Steps = make([]api.Step, 1<<17) })
	more(func(c *api.Chart) { c.Trans = slices.Repeat(c.Trans, 1<<9) })
	more(func(c *api.Chart) { c.Actions = make([]api.Action, 1<<17) })
	// Calls of 26 bytes with their blanks; the last two fill the text.
	for more, want := range []int{api.MaxSource, 0} {
		left := api.MaxSource - len("ACTION X:\nEND_ACTION\n") + more
		var body []api.Stmt
		for left >= 2*len("  "+strings.Repeat("A", 20)+"();\n") {
			body = append(body, api.Stmt{Op: api.StCall, Name: strings.Repeat("A", 20)})
			left -= 26
		}
		first := min(left-7, 20)
		body = append(body, api.Stmt{Op: api.StCall, Name: strings.Repeat("A", first)})
		left -= first + 6
		body = append(body, api.Stmt{Op: api.StCall, Name: strings.Repeat("A", left-6)})
		if left < 7 || left > 30 {
			t.Fatal(left)
		}
		if text := sfc.Print(api.Chart{Actions: []api.Action{{Name: "X", Body: body}}}); len(text) != want {
			t.Error(len(text), want)
		}
	}
	if sfc.Print(api.Chart{}) != "" || sfc.Print(api.Chart{Steps: []api.Step{}}) != "" {
		t.Error("nothing has a text")
	}
}

// full is a chart in which no field is zero.
func full() api.Chart {
	e := func() api.Expr {
		return api.Expr{Op: api.ExIndex, At: 5, Name: "A", Field: "F", Value: value.Bool(true), Kids: []api.Expr{number(7, 5)}, Names: []string{"K"}, Kind: api.KInt, Area: 1, Ref: 2, From: 3, To: 4}
	}
	s := api.Stmt{Op: api.StCall, At: 6, Name: "T", Num: 3, Exprs: []api.Expr{e()}, Names: []string{"I"}, Outs: []api.Expr{e()}, OutNames: []string{"O"}, Ranges: []api.Range{{Lo: 1, Hi: 2}}, Body: []api.Stmt{{Op: api.StExit, At: 9}}, Else: []api.Stmt{{Op: api.StEmpty, At: 9}}, Kind: api.KInt, Area: 1, Ref: 2}
	return api.Chart{
		Steps:   []api.Step{{At: 1, Name: "A", Initial: true, Links: []api.Link{{At: 2, Qual: "L", Time: 5, Name: "X"}}}},
		Trans:   []api.Trans{{At: 3, Name: "T", From: []string{"A"}, To: []string{"B"}, Cond: e()}},
		Actions: []api.Action{{At: 4, Name: "X", Body: []api.Stmt{s}}},
	}
}

// leaves calls a function with the path of each plain field of a value.
func leaves(v reflect.Value, path string, each func(path string, v reflect.Value)) {
	switch v.Kind() {
	case reflect.Slice:
		for i := range v.Len() {
			leaves(v.Index(i), path, each)
		}
	case reflect.Struct:
		for i := range v.NumField() {
			leaves(v.Field(i), path+"."+v.Type().Field(i).Name, each)
		}
	default:
		each(path, v)
	}
}

// lists calls a function with each list of a value.
func lists(v reflect.Value, each func(v reflect.Value)) {
	switch v.Kind() {
	case reflect.Slice:
		each(v)
		for i := range v.Len() {
			lists(v.Index(i), each)
		}
	case reflect.Struct:
		for i := range v.NumField() {
			lists(v.Field(i), each)
		}
	}
}

// P8.2: each field counts but places; of conditions and bodies as st.Same has it.
func TestSame(t *testing.T) {
	const aside = " At Kind Area Ref From To "
	count := 0
	leaves(reflect.ValueOf(full()), "", func(string, reflect.Value) { count++ })
	for n := range count {
		c := full()
		i := 0
		want := false
		path := ""
		leaves(reflect.ValueOf(&c).Elem(), "", func(p string, v reflect.Value) {
			i++
			if i-1 != n {
				return
			}
			field := p[strings.LastIndex(p, ".")+1:]
			isBelow := strings.Contains(p, ".Cond") || strings.Contains(p, ".Body")
			isValue := strings.Contains(p, ".Value.")
			want = field == "At" || isBelow && !isValue && strings.Contains(aside, " "+field+" ")
			path = p
			switch v.Kind() {
			case reflect.String:
				v.SetString(v.String() + "x")
			case reflect.Bool:
				v.SetBool(!v.Bool())
			case reflect.Int:
				v.SetInt(v.Int() + 1)
			default:
				v.SetUint(v.Uint() + 1)
			}
		})
		if sfc.Same(full(), c) != want || sfc.Same(c, full()) != want || !sfc.Same(c, c) {
			t.Error(path)
		}
	}
	if count < 60 {
		t.Error(count)
	}
}

// P8.2: lists that are longer are others; nil and empty are alike.
func TestSameLists(t *testing.T) {
	count := 0
	lists(reflect.ValueOf(full()), func(reflect.Value) { count++ })
	for n := range count {
		for _, longer := range []bool{false, true} {
			c := full()
			i, want := 0, false
			lists(reflect.ValueOf(&c).Elem(), func(v reflect.Value) {
				switch {
				case i != n:
				case longer:
					v.Set(reflect.Append(v, reflect.Zero(v.Type().Elem())))
				default:
					want = v.Len() == 0
					v.SetZero()
				}
				i++
			})
			if sfc.Same(full(), c) != want || sfc.Same(c, full()) != want {
				t.Error(n, longer)
			}
		}
	}
	empty := api.Chart{Steps: []api.Step{{Name: "A", Links: []api.Link{}}}, Trans: []api.Trans{}, Actions: []api.Action{{Name: "X", Body: []api.Stmt{}}}}
	none := api.Chart{Steps: []api.Step{{Name: "A"}}, Actions: []api.Action{{Name: "X"}}}
	sides := api.Chart{Trans: []api.Trans{{From: []string{}, To: []string{}}}}
	if !sfc.Same(empty, none) || !sfc.Same(none, empty) || !sfc.Same(sides, api.Chart{Trans: []api.Trans{{}}}) || !sfc.Same(api.Chart{}, api.Chart{Steps: []api.Step{}}) || sfc.Same(none, api.Chart{}) {
		t.Error("nil and empty")
	}
	if sfc.Print(empty) != "STEP A:\nEND_STEP\nACTION X:\nEND_ACTION\n" {
		t.Errorf("%q", sfc.Print(empty))
	}
	a, b := full(), full()
	a.Steps, b.Steps = append(a.Steps, api.Step{Name: "B"}), append([]api.Step{{Name: "B"}}, b.Steps...)
	if sfc.Same(a, b) {
		t.Error("the order plays a part")
	}
}

// shake changes one field of a value somewhere, by chance.
func shake(r *rand.Rand, v reflect.Value) {
	switch v.Kind() {
	case reflect.Slice:
		n := v.Len()
		switch pick := r.Intn(10); {
		case n == 0:
		case pick == 0:
			v.Set(v.Slice(0, n-1))
		case pick == 1:
			v.Set(reflect.Append(v, v.Index(r.Intn(n))))
		default:
			shake(r, v.Index(r.Intn(n)))
		}
	case reflect.Struct:
		shake(r, v.Field(r.Intn(v.NumField())))
	case reflect.String:
		v.SetString([]string{"", "A", "S0", "a", "N", "L", "NOT", "A B", "5"}[r.Intn(9)])
	case reflect.Bool:
		v.SetBool(!v.Bool())
	case reflect.Int:
		v.SetInt(int64(r.Intn(26) - 1))
	case reflect.Uint8:
		v.SetUint(uint64(r.Intn(22)))
	case reflect.Uint64:
		v.SetUint(r.Uint64() >> r.Intn(64))
	}
}

// P8.3: whatever a chart is, its text says it, or is empty.
func TestByHand(t *testing.T) {
	r := rand.New(rand.NewSource(1))
	printed, none := 0, 0
	for seed := range int64(6000) {
		m := newMaker(seed, "S")
		m.write(1 + int(seed%5))
		for range 1 + r.Intn(3) {
			shake(r, reflect.ValueOf(&m.chart).Elem())
		}
		text := sfc.Print(m.chart)
		if text == "" {
			none++
			continue
		}
		printed++
		if back := parsed(t, text); !sfc.Same(back, m.chart) || sfc.Print(back) != text {
			t.Fatalf("%q: %+v", text, m.chart)
		}
	}
	if printed < 1000 || none < 1000 {
		t.Error(printed, none)
	}
}

// What is printed and compared stays as it is, the room behind its lists too.
func TestLeaves(t *testing.T) {
	links := []api.Link{{At: 1, Name: "X", Qual: "N"}, {At: 2, Name: "x", Qual: "Q"}}
	from := []string{"A", "B", "c"}
	body := []api.Stmt{{Op: api.StExit, At: 5}, {Op: 99}}
	c := api.Chart{Steps: []api.Step{{Name: "A", Links: links[:1]}}, Trans: []api.Trans{{From: from[:2], To: from[:1], Cond: name(3, "A")}}, Actions: []api.Action{{Name: "X", Body: body[:1]}}}
	if text := sfc.Print(c); text == "" || !sfc.Same(c, c) {
		t.Error(text)
	}
	if links[1] != (api.Link{At: 2, Name: "x", Qual: "Q"}) || links[0].At != 1 || !slices.Equal(from, []string{"A", "B", "c"}) || body[0].At != 5 || body[1].Op != 99 {
		t.Error(links, from, body)
	}
}
