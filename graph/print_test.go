package graph_test

import (
	"math/rand"
	"reflect"
	"slices"
	"strings"
	"testing"

	"relay/api"
	"relay/graph"
	"relay/value"
)

// P7.3: the form.
func TestForm(t *testing.T) {
	for src, want := range map[string]string{
		"":                                "",
		"rung a!b[c|+d e]=>q,+s;":         "RUNG A !B [ C | +D E ] => Q, +S;\n",
		"RUNG=>q;":                        "RUNG => Q;\n",
		"RUNG [] [||] [[a]|] => !q.r;":    "RUNG [ ] [ | | ] [ [ A ] | ] => !Q.R;\n",
		"RUNG -a => -b; RUNG a . b => c;": "RUNG -A => -B;\nRUNG A.B => C;\n",
	} {
		if got := graph.PrintLadder(ladder(t, src)); got != want {
			t.Errorf("%q:\n got %q\nwant %q", src, got, want)
		}
	}
	for src, want := range map[string]string{
		"":                    "",
		"network end_network": "NETWORK\nEND_NETWORK\n",
		"NETWORK n:INT:=add(a,in2:=5);t(in:=a,pt:=b);u();a=>b;END_NETWORK":                                                                               "NETWORK\n  N : INT := ADD(A, IN2 := 5);\n  T(IN := A, PT := B);\n  U();\n  A => B;\nEND_NETWORK\n",
		"NETWORK NOT a.q=>b; - 16#10=>c; NOT-5=>d; NOT true=>e; int#-5=>f; byte#255=>g; END_NETWORK NETWORK n:TIME:=mod(bool#1,x:=not - 7); END_NETWORK": "NETWORK\n  NOT A.Q => B;\n  -16 => C;\n  NOT -5 => D;\n  NOT TRUE => E;\n  INT#-5 => F;\n  BYTE#16#FF => G;\nEND_NETWORK\nNETWORK\n  N : TIME := MOD(TRUE, X := NOT -7);\nEND_NETWORK\n",
	} {
		if got := graph.PrintNetworks(networks(t, src)); got != want {
			t.Errorf("%q:\n got %q\nwant %q", src, got, want)
		}
	}
}

// P7.3: literals without a printed form.
func TestNoFormOfLiterals(t *testing.T) {
	for _, s := range []string{"1.5", "LREAL#5", "T#1s", "D#2000-01-01", "TOD#12:00:00", "DT#2000-01-01-12:00:00", "'x'", "STRING#''"} {
		for _, node := range []string{s + " => a;", "NOT " + s + " => a;", "t(x := " + s + ");", "n : INT := F(" + s + ");", "n : INT := F(a, x := NOT " + s + ");"} {
			for _, src := range []string{"NETWORK " + node + " END_NETWORK", "NETWORK a => b; " + node + " END_NETWORK NETWORK END_NETWORK"} {
				if text := graph.PrintNetworks(networks(t, src)); text != "" {
					t.Errorf("%q: %q", src, text)
				}
			}
		}
	}
}

func nested(deep int) []api.Element {
	l := []api.Element{element(api.LdOpen, 0, "A")}
	for range deep {
		l = []api.Element{{Op: api.LdBranches, Branches: [][]api.Element{l}}}
	}
	return l
}

// P7.3: ladders made by hand that have no text.
func TestNoFormOfLadders(t *testing.T) {
	q := []api.Element{element(api.LdCoil, 0, "Q")}
	a := element(api.LdOpen, 0, "A")
	round := []api.Element{{Op: api.LdBranches}}
	round[0].Branches = [][]api.Element{round, round}
	wide := []api.Element{a, a}
	for range api.MaxDeep {
		wide = []api.Element{{Op: api.LdBranches, Branches: [][]api.Element{wide, wide}}, a}
	}
	list := []api.Rung{
		{}, {Contacts: []api.Element{a}}, {Coils: []api.Element{{}}}, {Coils: []api.Element{q[0], {}}},
		{Contacts: nested(api.MaxDeep + 1), Coils: q}, {Contacts: round, Coils: q}, {Contacts: wide, Coils: q}, {Contacts: make([]api.Element, 1<<20), Coils: q}, {Coils: make([]api.Element, 1<<20)},
		{Contacts: []api.Element{{Op: api.LdBranches}}, Coils: q}, {Contacts: []api.Element{{Op: api.LdBranches, Name: "A", Branches: [][]api.Element{{a}}}}, Coils: q}, {Contacts: []api.Element{{Op: api.LdOpen, Name: "A", Branches: [][]api.Element{nil}}}, Coils: q}, {Coils: []api.Element{{Op: api.LdCoil, Name: "Q", Branches: [][]api.Element{nil}}}},
		{Contacts: []api.Element{{Op: api.LdBranches, Branches: [][]api.Element{q}}}, Coils: q}, {Coils: []api.Element{{Op: api.LdBranches, Branches: [][]api.Element{{a}}}}},
		{Contacts: slices.Repeat([]api.Element{a}, api.MaxTokens), Coils: q}, {Coils: slices.Repeat(q, api.MaxSource/3)},
	}
	for op := -2; op < 13; op++ {
		if op < api.LdOpen || op > api.LdFall {
			list = append(list, api.Rung{Contacts: []api.Element{a, element(op, 0, "B")}, Coils: q})
		}
		if op < api.LdCoil || op > api.LdReset {
			list = append(list, api.Rung{Coils: []api.Element{element(op, 0, "B")}})
		}
	}
	for _, name := range []string{"", "a", "_R1", "IF", "RUNG", "TRUE", "5", "A B", "A.", ".A", "A.B.C", "A .B", "A. B", "A.b", "A.IF", " A", "A ", "A(* *)", "!A", "A;RUNG", "A => Q; RUNG B", "[ A ]", "INT", "Ä", "A\n", "ABCDEFGHIJKLMNOPQRSTUVWXY", "A.ABCDEFGHIJKLMNOPQRSTUVWXY", strings.Repeat("A", api.MaxSource)} {
		list = append(list, api.Rung{Contacts: []api.Element{element(api.LdOpen, 0, name)}, Coils: q}, api.Rung{Coils: []api.Element{element(api.LdSet, 0, name)}}, api.Rung{Contacts: []api.Element{{Op: api.LdBranches, Branches: [][]api.Element{{a}, {element(api.LdFall, 0, name)}}}}, Coils: q})
	}
	plain := api.Rung{Coils: q}
	for i, rung := range list {
		for _, l := range [][]api.Rung{{rung}, {plain, rung, plain}} {
			if text := graph.PrintLadder(l); text != "" {
				t.Errorf("%d: %.100q", i, text)
			}
		}
	}
}

// P7.3: networks made by hand that have no text.
func TestNoFormOfNetworks(t *testing.T) {
	a, five := name(0, "A"), number(0, 5)
	turned := func(op int, e ...api.Expr) api.Expr { return api.Expr{Op: op, Kids: e} }
	round := []api.Expr{{Op: api.OpNot}}
	round[0].Kids = round
	integer, _ := value.Int(api.KInt, 5)
	out := func(e api.Expr) api.Node {
		return api.Node{Op: api.FbOut, Name: "B", Wires: []api.Expr{e}, Names: []string{""}}
	}
	list := []api.Node{
		{}, {Op: 4, Name: "B", Wires: []api.Expr{a}, Names: []string{""}}, {Op: -1, Name: "B"},
		{Op: api.FbOut, Name: "B"}, {Op: api.FbOut, Name: "B", Names: []string{""}}, {Op: api.FbOut, Name: "B", Wires: []api.Expr{a}}, {Op: api.FbOut, Name: "B", Wires: []api.Expr{a}, Names: []string{"X"}}, {Op: api.FbOut, Name: "B", Wires: []api.Expr{a, a}, Names: []string{"", ""}}, {Op: api.FbOut, Name: "B", Kind: api.KInt, Wires: []api.Expr{a}, Names: []string{""}}, {Op: api.FbOut, Name: "B", Func: "F", Wires: []api.Expr{a}, Names: []string{""}}, {Op: api.FbOut, Name: "B.C", Wires: []api.Expr{a}, Names: []string{""}},
		{Op: api.FbBlock}, {Op: api.FbBlock, Name: "T", Wires: []api.Expr{a}}, {Op: api.FbBlock, Name: "T", Names: []string{"X"}}, {Op: api.FbBlock, Name: "T", Wires: []api.Expr{a}, Names: []string{""}}, {Op: api.FbBlock, Name: "T", Wires: []api.Expr{a, a}, Names: []string{"X", ""}}, {Op: api.FbBlock, Name: "T", Kind: api.KInt}, {Op: api.FbBlock, Name: "T", Func: "F"}, {Op: api.FbBlock, Name: "T.U"},
		{Op: api.FbFunc, Name: "N", Kind: api.KInt, Func: "F"}, {Op: api.FbFunc, Name: "N", Kind: api.KInt, Func: "F", Wires: []api.Expr{a}}, {Op: api.FbFunc, Name: "N", Kind: api.KInt, Func: "F", Wires: []api.Expr{a}, Names: []string{"", ""}}, {Op: api.FbFunc, Name: "N", Kind: api.KInt, Wires: []api.Expr{a}, Names: []string{""}}, {Op: api.FbFunc, Name: "N.M", Kind: api.KInt, Func: "F", Wires: []api.Expr{a}, Names: []string{""}},
		{Op: api.FbFunc, Name: "N", Kind: api.KInt, Func: "F", Wires: make([]api.Expr, 1<<20), Names: make([]string, 1<<20)}, {Op: api.FbBlock, Name: "T", Wires: slices.Repeat([]api.Expr{a}, api.MaxTokens/4), Names: slices.Repeat([]string{"X"}, api.MaxTokens/4)},
	}
	for _, e := range []api.Expr{
		{}, turned(api.OpNot), turned(api.OpNot, a, a), turned(api.OpNot, turned(api.OpNot, a)), turned(api.OpNeg), turned(api.OpNeg, a), turned(api.OpNeg, api.Expr{Op: api.ExLit, Value: integer}), turned(api.OpNeg, turned(api.OpNeg, five)), turned(api.OpNeg, turned(api.OpNot, five)), turned(api.OpAdd, a, a), turned(api.OpNot, turned(api.OpAnd, a, a)), turned(api.ExConv, a), turned(api.ExLit, a), turned(api.ExName, a), round[0],
		{Op: api.ExIndex, Name: "A", Kids: []api.Expr{five}}, {Op: api.ExCall, Name: "F"}, {Op: api.ExName}, {Op: api.ExName, Name: "a"}, {Op: api.ExName, Name: "A.B"}, {Op: api.ExName, Name: "A", Field: "B"}, {Op: api.ExName, Name: "A", Names: []string{""}}, {Op: api.ExName, Name: "A", Value: integer}, {Op: api.ExField, Name: "A"}, {Op: api.ExField, Name: "A", Field: "b"}, {Op: api.ExField, Field: "B"}, {Op: api.ExName, Name: "A, B"}, {Op: api.ExName, Name: "X := A"}, {Op: api.ExName, Name: "(A)"},
		{Op: api.ExLit, Value: api.Value{Kind: api.KInt, Bits: 40000}}, {Op: api.ExLit, Value: api.Value{Kind: api.KRef}}, {Op: api.ExLit, Value: api.Value{Kind: 99}}, {Op: api.ExLit, Value: api.Value{Text: "x"}}, {Op: api.ExLit, Name: "A"}, {Op: api.ExLit, Value: value.Lreal(1)}, {Op: api.ExLit, Value: value.Zero(api.KTime)}, {Op: api.ExLit, Value: value.Zero(api.KString)}, {Op: api.ExLit, Value: api.Value{Kind: api.KBool, Bits: 2}},
		// What layer 15 puts in no text has.
		{Op: api.ExName, Name: "A", Kind: api.KInt}, {Op: api.ExName, Name: "A", Area: 1}, {Op: api.ExName, Name: "A", Ref: 1}, {Op: api.ExName, Name: "A", From: 1}, {Op: api.ExName, Name: "A", To: 1}, turned(api.OpNot, api.Expr{Op: api.ExName, Name: "A", Kind: api.KInt}),
	} {
		list = append(list, out(e), api.Node{Op: api.FbBlock, Name: "T", Wires: []api.Expr{a, e}, Names: []string{"X", "Y"}}, api.Node{Op: api.FbFunc, Name: "N", Kind: api.KInt, Func: "F", Wires: []api.Expr{e, a}, Names: []string{"X", ""}})
	}
	for _, k := range []api.Kind{api.KNone, api.KRef, api.NumKind, 255} {
		list = append(list, api.Node{Op: api.FbFunc, Name: "N", Kind: k, Func: "F", Wires: []api.Expr{a}, Names: []string{""}})
	}
	for _, s := range []string{"", "a", "_N1", "IF", "TRUE", "5", "A B", " A", "A ", "A.B", "NETWORK", "END_NETWORK", "A; B", "ABCDEFGHIJKLMNOPQRSTUVWXY", "INT", strings.Repeat("A", api.MaxSource)} {
		list = append(list, api.Node{Op: api.FbOut, Name: s, Wires: []api.Expr{a}, Names: []string{""}}, api.Node{Op: api.FbBlock, Name: s}, api.Node{Op: api.FbFunc, Name: s, Kind: api.KInt, Func: "F", Wires: []api.Expr{a}, Names: []string{""}}, api.Node{Op: api.FbFunc, Name: "N", Kind: api.KInt, Func: s, Wires: []api.Expr{a}, Names: []string{""}}, api.Node{Op: api.FbBlock, Name: "T", Wires: []api.Expr{a}, Names: []string{s}})
		if s != "" {
			list = append(list, api.Node{Op: api.FbFunc, Name: "N", Kind: api.KInt, Func: "F", Wires: []api.Expr{a}, Names: []string{s}})
		}
	}
	for i, n := range list {
		for _, l := range [][]api.Network{{{Nodes: []api.Node{n}}}, {{}, {Nodes: []api.Node{out(a), n, out(a)}}, {}}} {
			if text := graph.PrintNetworks(l); text != "" {
				t.Errorf("%d: %.100q", i, text)
			}
		}
	}
	twice := api.Node{Op: api.FbFunc, Name: "N", Kind: api.KInt, Func: "F", Wires: []api.Expr{a}, Names: []string{""}}
	if text := graph.PrintNetworks([]api.Network{{Nodes: []api.Node{twice, twice}}}); text != "" {
		t.Errorf("%q", text)
	}
	if text := graph.PrintNetworks([]api.Network{{Nodes: []api.Node{twice}}, {Nodes: []api.Node{twice}}}); text != "NETWORK\n  N : INT := F(A);\nEND_NETWORK\nNETWORK\n  N : INT := F(A);\nEND_NETWORK\n" {
		t.Errorf("%q", text)
	}
}

// P7.3: as great a text as can be, and one byte or word more; nil and empty lists are alike.
func TestGreatForm(t *testing.T) {
	q := []api.Element{element(api.LdCoil, 0, "Q")}
	rung := api.Rung{Contacts: []api.Element{}, Coils: q}
	l := slices.Repeat([]api.Rung{rung}, api.MaxTokens/4)
	if text := graph.PrintLadder(l); text != strings.Repeat("RUNG => Q;\n", len(l)) {
		t.Error(len(text))
	}
	if text := graph.PrintLadder(append(l, rung)); text != "" {
		t.Error(len(text))
	}
	// Rungs of 33 bytes; the last one fills the text.
	for more, want := range []int{api.MaxSource, 0} {
		long := slices.Repeat([]api.Rung{{Coils: []api.Element{element(api.LdCoil, 0, "ABCDEFGHIJKLMNOPQRSTUVW")}}}, 1984)
		left := api.MaxSource - 1984*33 + more
		coils := []api.Element{element(api.LdSet, 0, strings.Repeat("A", 10))}
		left -= len("RUNG => +AAAAAAAAAA;\n")
		for left > 20 {
			coils = append(coils, element(api.LdSet, 0, strings.Repeat("A", 7)))
			left -= 10
		}
		coils = append(coils, element(api.LdCoil, 0, strings.Repeat("A", left-2)))
		if text := graph.PrintLadder(append(long, api.Rung{Coils: coils})); len(text) != want {
			t.Error(len(text), want)
		}
	}
	empty := []api.Network{{Nodes: []api.Node{{Op: api.FbBlock, Name: "T", Wires: []api.Expr{}, Names: []string{}}}}, {Nodes: []api.Node{}}}
	if text := graph.PrintNetworks(empty); text != "NETWORK\n  T();\nEND_NETWORK\nNETWORK\nEND_NETWORK\n" {
		t.Errorf("%q", text)
	}
	if graph.PrintLadder(nil) != "" || graph.PrintLadder([]api.Rung{}) != "" || graph.PrintNetworks(nil) != "" || graph.PrintNetworks([]api.Network{}) != "" {
		t.Error("nothing has a text")
	}
	branch := []api.Rung{{Contacts: []api.Element{{Op: api.LdBranches, Branches: [][]api.Element{{}}}}, Coils: q}}
	if text := graph.PrintLadder(branch); text != "RUNG [ ] => Q;\n" {
		t.Errorf("%q", text)
	}
}

// shake changes one field of a value somewhere, by chance.
func shake(r *rand.Rand, v reflect.Value) {
	switch v.Kind() {
	case reflect.Slice:
		n := v.Len()
		switch pick := r.Intn(10); {
		case n == 0:
		case pick == 0:
			v.Set(v.Slice(0, n-1))
		case pick == 1:
			v.Set(reflect.Append(v, v.Index(r.Intn(n))))
		default:
			shake(r, v.Index(r.Intn(n)))
		}
	case reflect.Struct:
		shake(r, v.Field(r.Intn(v.NumField())))
	case reflect.String:
		v.SetString([]string{"", "A", "A.B", "a", "N", "NOT", "ADD", "A B", "5"}[r.Intn(9)])
	case reflect.Int:
		v.SetInt(int64(r.Intn(26) - 1))
	case reflect.Uint8:
		v.SetUint(uint64(r.Intn(22)))
	case reflect.Uint64:
		v.SetUint(r.Uint64() >> r.Intn(64))
	}
}

// P7.3: whatever a tree is, its text says it, or is empty; places play no part.
func TestByHand(t *testing.T) {
	r := rand.New(rand.NewSource(1))
	printed, none := 0, 0
	for seed := range int64(6000) {
		m := newMaker(seed)
		l := m.ladder(2)
		for range 1 + r.Intn(3) {
			shake(r, reflect.ValueOf(&l).Elem())
		}
		if text := graph.PrintLadder(l); text != "" {
			printed++
			if back := ladder(t, text); !alike(placeless(back), placeless(l)) {
				t.Fatalf("%q: %+v", text, l)
			}
		} else {
			none++
		}
		m = newMaker(seed)
		nets := m.networks(2)
		for range 1 + r.Intn(3) {
			shake(r, reflect.ValueOf(&nets).Elem())
		}
		if text := graph.PrintNetworks(nets); text != "" {
			printed++
			if back := networks(t, text); !alike(placeless(back), placeless(nets)) {
				t.Fatalf("%q: %+v", text, nets)
			}
		} else {
			none++
		}
	}
	if printed < 3000 || none < 3000 {
		t.Error(printed, none)
	}
}

// What is printed stays as it is, the room behind its lists too.
func TestPrintLeaves(t *testing.T) {
	roomy := func() ([]api.Element, []api.Element) {
		l := []api.Element{element(api.LdOpen, 7, "A"), element(api.LdShut, 8, "B"), element(99, 9, "x")}
		return l[:2], l
	}
	l, all := roomy()
	graph.PrintLadder([]api.Rung{{Contacts: l, Coils: []api.Element{element(api.LdCoil, 0, "Q")}}})
	if _, want := roomy(); !reflect.DeepEqual(all, want) {
		t.Error(all)
	}
	wires := []api.Expr{name(3, "A"), number(4, 5), name(5, "x")}
	names := []string{"", "X", "y"}
	graph.PrintNetworks([]api.Network{{Nodes: []api.Node{{Op: api.FbFunc, Name: "N", Kind: api.KInt, Func: "F", Wires: wires[:2], Names: names[:2]}}}})
	if !reflect.DeepEqual(wires, []api.Expr{name(3, "A"), number(4, 5), name(5, "x")}) || !slices.Equal(names, []string{"", "X", "y"}) {
		t.Error(wires, names)
	}
}
