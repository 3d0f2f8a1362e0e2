package il_test

import (
	"reflect"
	"slices"
	"strings"
	"testing"

	"relay/api"
	"relay/il"
	"relay/value"
)

// P6.3: the form.
func TestForm(t *testing.T) {
	for src, want := range map[string]string{
		"":                                 "",
		"L1: LD a\nANDN( b":                "L1: LD A\n  ANDN( B\n",
		"l1:":                              "L1:\n",
		"l1:\n\n(* x *)l2: )":              "L1:\nL2: )\n",
		"& b":                              "  AND B\n",
		"&(\n)":                            "  AND(\n  )\n",
		"jmp x\njmpc x\njmpcn x\nl: jmp x": "  JMP X\n  JMPC X\n  JMPCN X\nL: JMP X\n",
		"ret\nretc\nretcn":                 "  RET\n  RETC\n  RETCN\n",
		"cal t\ncalc t()\ncalcn t(q=>b[1],a+b,in:=c)":    "  CAL T()\n  CALC T()\n  CALCN T(A + B, IN := C, Q => B[1])\n",
		"max b,3,-5\nabs\nl: f (a)":                      "  MAX B, 3, -5\n  ABS\nL: F A\n",
		"ld -int#5\nldn a.b\nst a[i+1]\nstn a\ns a\nr a": "  LD -INT#5\n  LDN A.B\n  ST A[I + 1]\n  STN A\n  S A\n  R A\n",
		"not\nadd word#16#ff\nmod( 5":                    "  NOT\n  ADD WORD#16#FF\n  MOD( 5\n",
		"FN fn":                                          "  FN FN\n",
	} {
		if got := il.Print(parsed(t, src)); got != want {
			t.Errorf("%q:\n got %q\nwant %q", src, got, want)
		}
	}
}

// P6.3: literals without a printed form, and instructions made by hand that have no text.
func TestNoForm(t *testing.T) {
	for _, src := range []string{"LD 1.5", "LD T#1s", "ADD 'a'", "MAX a, D#2000-01-01", "ST a['x']", "CAL t(a, 1.5)", "CAL t(q => a[1.5])", "AND( LREAL#1", "LD -1.5", "NOT\nLD 1.5\nNOT"} {
		if text := il.Print(parsed(t, src)); text != "" {
			t.Errorf("%q: %q", src, text)
		}
	}
	a := []api.Expr{name(0, "A")}
	five := []api.Expr{number(0, 5)}
	neg := []api.Expr{{Op: api.OpNeg, Kids: five}}
	sum := []api.Expr{{Op: api.OpAdd, Kids: []api.Expr{a[0], a[0]}}}
	round := []api.Expr{{Op: api.OpNeg}}
	round[0].Kids = round
	var many []api.Expr
	for range 1 << 16 {
		many = append(many, a[0])
	}
	for i, in := range []api.IlInstr{
		{}, {At: 5}, {Not: true}, {Label: "L", Not: true}, {Label: "L", Name: "A"}, {Label: "L", Args: a}, {Label: "l", Op: "RET"}, {Label: "_L", Op: "RET"}, {Label: "IF", Op: "RET"}, {Label: "L: M", Op: "RET"}, {Label: "5"}, {Label: "L:\nM"}, {Label: "ABCDEFGHIJKLMNOPQRSTUVWXY"}, {Label: " ", Op: "RET"},
		{Op: "LD"}, {Op: "LD", Args: sum}, {Op: "LD", Args: []api.Expr{a[0], a[0]}}, {Op: "LD", Open: true, Args: a}, {Op: "LD", Cond: true, Args: a}, {Op: "LD", Name: "X", Args: a}, {Op: "LD", Args: a, Names: []string{""}}, {Op: "LD", Args: a, Outs: a}, {Op: "LD", Args: a, OutNames: []string{""}}, {Op: "LD", Args: []api.Expr{{}}}, {Op: "LD", Args: round}, {Op: "LD", Args: []api.Expr{name(0, "a")}}, {Op: "LD", Args: []api.Expr{{Op: api.ExCall, Name: "F"}}}, {Op: "LDN", Args: a}, {Op: "ld", Args: a},
		{Op: "ST"}, {Op: "ST", Args: five}, {Op: "ST", Args: neg}, {Op: "ST", Args: sum}, {Op: "S", Args: five}, {Op: "S", Not: true, Args: a}, {Op: "R", Not: true, Args: a}, {Op: "R", Cond: true, Args: a}, {Op: "S", Open: true, Args: a},
		{Op: "AND"}, {Op: "AND", Args: sum}, {Op: "AND", Cond: true, Args: a}, {Op: "AND", Open: true, Args: []api.Expr{a[0], a[0]}}, {Op: "&", Args: a}, {Op: "ADD", Not: true, Args: a}, {Op: "LT", Cond: true, Args: a}, {Op: "GT"}, {Op: "ANDN", Args: a}, {Op: "AND(", Args: a},
		{Op: "NOT", Args: a}, {Op: "NOT", Not: true}, {Op: "NOT", Open: true}, {Op: ")", Args: a}, {Op: ")", Not: true}, {Op: ")", Open: true}, {Op: ")", Name: "A"},
		{Op: "JMP"}, {Op: "JMP", Name: "l"}, {Op: "JMP", Name: "IF"}, {Op: "JMP", Name: "A B"}, {Op: "JMP", Name: "A", Not: true}, {Op: "JMP", Name: "A", Args: a}, {Op: "JMP", Name: "A", Open: true}, {Op: "JMPC", Name: "A"},
		{Op: "CAL"}, {Op: "CAL", Name: "t"}, {Op: "CAL", Name: "T", Not: true}, {Op: "CAL", Name: "T", Args: a}, {Op: "CAL", Name: "T", Names: []string{""}}, {Op: "CAL", Name: "T", Args: a, Names: []string{"x"}}, {Op: "CAL", Name: "T", Outs: five, OutNames: []string{"Q"}}, {Op: "CAL", Name: "T", Outs: a}, {Op: "CAL", Name: "T", Open: true}, {Op: "CAL", Name: "T", Args: round, Names: []string{""}},
		{Op: "RET", Not: true}, {Op: "RET", Name: "A"}, {Op: "RET", Args: a}, {Op: "RET", Open: true},
		{Op: "FN"}, {Op: "FN", Name: "LD", Args: a}, {Op: "FN", Name: "AND", Args: a}, {Op: "FN", Name: "max", Args: a}, {Op: "FN", Name: "MAX", Not: true, Args: a}, {Op: "FN", Name: "MAX", Cond: true}, {Op: "FN", Name: "MAX", Open: true}, {Op: "FN", Name: "MAX", Args: sum}, {Op: "FN", Name: "MAX", Args: []api.Expr{a[0], sum[0]}}, {Op: "FN", Name: "MAX", Args: a, Names: []string{""}}, {Op: "FN", Name: "IF"}, {Op: "FN", Name: "RET"}, {Op: "FN", Name: "A\nB"}, {Op: "FN", Name: "MAX", Args: many}, {Op: "MAX", Args: a}, {Op: "5"}, {Op: "A: RET"}, {Op: "RET\nRET"},
	} {
		for _, l := range [][]api.IlInstr{{in}, {{Op: "RET"}, in, {Op: "RET"}}} {
			if text := il.Print(l); text != "" {
				t.Errorf("%d: %.100q", i, text)
			}
		}
	}
}

// As many instructions as can be, and one more; a text that would be too long.
func TestGreatForm(t *testing.T) {
	l := make([]api.IlInstr, api.MaxLines)
	for i := range l {
		l[i].Op = "RET"
	}
	if text := il.Print(l); text != strings.Repeat("  RET\n", api.MaxLines) {
		t.Error(len(text))
	}
	if text := il.Print(append(l, l[0])); text != "" {
		t.Error(len(text))
	}
	for i := range l {
		l[i] = api.IlInstr{Label: "ABCDEFGHIJKL", Op: "RET"}
	}
	if text := il.Print(l); text != "" {
		t.Error(len(text))
	}
	for i := range l {
		l[i] = api.IlInstr{Label: "ABCDEFGHIJ", Op: "RET"}
	}
	if text := il.Print(l); len(text) != api.MaxSource {
		t.Error(len(text))
	}
	for i := range l {
		l[i] = api.IlInstr{Label: "ABCDEFGHIJKL", Op: "RET"}
	}
	if n := api.MaxSource / 18; len(il.Print(l[:n])) != n*18 || il.Print(l[:n+1]) != "" {
		t.Error(n)
	}
}

// full is an instruction in which no field is zero.
func full() api.IlInstr {
	e := api.Expr{Op: api.ExIndex, At: 5, Name: "A", Kids: []api.Expr{number(7, 5)}, Kind: api.KInt, Area: 1, Ref: 2, From: 3, To: 4}
	return api.IlInstr{At: 1, Label: "L", Op: "CAL", Not: true, Cond: true, Open: true, Name: "T", Args: []api.Expr{e, e}, Names: []string{"X", "Y"}, Outs: []api.Expr{e}, OutNames: []string{"Q"}}
}

// P6.2: each field counts but At; of expressions as st.Same has it.
func TestSame(t *testing.T) {
	base := []api.IlInstr{full()}
	if !il.Same(base, []api.IlInstr{full()}) || !il.Same(nil, []api.IlInstr{}) || !il.Same(nil, nil) || il.Same(base, nil) || il.Same(base, append(base, full())) {
		t.Error("not as many")
	}
	changes := map[string]func(*api.IlInstr){
		"At": func(in *api.IlInstr) { in.At++ }, "Args.At": func(in *api.IlInstr) { in.Args[1].At++ }, "Args.Kind": func(in *api.IlInstr) { in.Args[1].Kind++ }, "Args.Ref": func(in *api.IlInstr) { in.Args[0].Ref++ }, "Outs.To": func(in *api.IlInstr) { in.Outs[0].To++ }, "Args.Kids.At": func(in *api.IlInstr) { in.Args[0].Kids[0].At++ }, "Args.Area": func(in *api.IlInstr) { in.Args[0].Area++ }, "Args.From": func(in *api.IlInstr) { in.Args[0].From++ },
		"!Label": func(in *api.IlInstr) { in.Label = "M" }, "!Op": func(in *api.IlInstr) { in.Op = "FN" }, "!Not": func(in *api.IlInstr) { in.Not = false }, "!Cond": func(in *api.IlInstr) { in.Cond = false }, "!Open": func(in *api.IlInstr) { in.Open = false }, "!Name": func(in *api.IlInstr) { in.Name = "t" },
		"!Args": func(in *api.IlInstr) { in.Args = in.Args[:1] }, "!Args.Op": func(in *api.IlInstr) { in.Args[1].Op++ }, "!Args.Name": func(in *api.IlInstr) { in.Args[1].Name = "B" }, "!Args.Field": func(in *api.IlInstr) { in.Args[1].Field = "B" }, "!Args.Value": func(in *api.IlInstr) { in.Args[0].Kids = []api.Expr{{Op: api.ExLit, Value: value.Bool(true)}} }, "!Names": func(in *api.IlInstr) { in.Names[0] = "" }, "!Names' count": func(in *api.IlInstr) { in.Names = nil }, "!Outs": func(in *api.IlInstr) { in.Outs = nil }, "!Outs.Name": func(in *api.IlInstr) { in.Outs[0].Name = "B" }, "!OutNames": func(in *api.IlInstr) { in.OutNames[0] = "R" },
	}
	for field, change := range changes {
		in := full()
		change(&in)
		want := !strings.HasPrefix(field, "!")
		for _, ahead := range [][]api.IlInstr{nil, {full()}} {
			a, b := append(slices.Clone(ahead), full()), append(slices.Clone(ahead), in)
			if il.Same(a, b) != want || il.Same(b, a) != want {
				t.Error(field)
			}
		}
	}
}

// regions is the memory of all lists in a value, their spare room too.
func regions(v reflect.Value, found *[][2]uintptr) {
	switch v.Kind() {
	case reflect.Slice:
		if v.Cap() > 0 {
			from := v.Pointer()
			*found = append(*found, [2]uintptr{from, from + uintptr(v.Cap())*v.Type().Elem().Size()})
		}
		for i := range v.Len() {
			regions(v.Index(i), found)
		}
	case reflect.Struct:
		for i := range v.NumField() {
			regions(v.Field(i), found)
		}
	}
}

// What is handed in stays; what is answered is memory of its own.
func TestMemory(t *testing.T) {
	for seed := range int64(300) {
		src := newMaker(seed).source(8)
		a, b := parsed(t, src), parsed(t, src)
		var l [][2]uintptr
		regions(reflect.ValueOf(a), &l)
		regions(reflect.ValueOf(b), &l)
		slices.SortFunc(l, func(a, b [2]uintptr) int { return slices.Compare(a[:], b[:]) })
		for i := 1; i < len(l); i++ {
			if l[i][0] < l[i-1][1] {
				t.Fatalf("%q: shared", src)
			}
		}
		il.Print(a)
		il.Same(a, b)
		if !alike(a, parsed(t, src)) || !alike(a, b) {
			t.Fatalf("%q: changed", src)
		}
	}
}
