package graph_test

import (
	"errors"
	"reflect"
	"slices"
	"strings"
	"testing"

	"relay/api"
	"relay/graph"
	"relay/lex"
	"relay/value"
)

func element(op, at int, name string) api.Element { return api.Element{Op: op, At: at, Name: name} }

func name(at int, s string) api.Expr { return api.Expr{Op: api.ExName, At: at, Name: s} }

func number(at int, n uint64) api.Expr {
	return api.Expr{Op: api.ExLit, At: at, Value: api.Value{Bits: n}}
}

// P7.1: the chapter's examples, and each mark, whole.
func TestLadderExamples(t *testing.T) {
	for src, want := range map[string][]api.Rung{
		"":       nil,
		" (**) ": nil,
		"RUNG a !b [ c | +d e ] => q, +s;": {{
			Contacts: []api.Element{element(api.LdOpen, 5, "A"), element(api.LdShut, 7, "B"), {Op: api.LdBranches, At: 10, Branches: [][]api.Element{{element(api.LdOpen, 12, "C")}, {element(api.LdRise, 16, "D"), element(api.LdOpen, 19, "E")}}}},
			Coils:    []api.Element{element(api.LdCoil, 26, "Q"), element(api.LdSet, 29, "S")},
		}},
		"RUNG => q;": {{Coils: []api.Element{element(api.LdCoil, 8, "Q")}}},
		"rung a!b+c-d=>a,!b,+c,-d;": {{
			Contacts: []api.Element{element(api.LdOpen, 5, "A"), element(api.LdShut, 6, "B"), element(api.LdRise, 8, "C"), element(api.LdFall, 10, "D")},
			Coils:    []api.Element{element(api.LdCoil, 14, "A"), element(api.LdNot, 16, "B"), element(api.LdSet, 19, "C"), element(api.LdReset, 22, "D")},
		}},
		"RUNG ! a . b a.b => - c . d;": {{
			Contacts: []api.Element{element(api.LdShut, 5, "A.B"), element(api.LdOpen, 13, "A.B")},
			Coils:    []api.Element{element(api.LdReset, 20, "C.D")},
		}},
		"RUNG [] [|a] [a|] [[]] => q;RUNG => r;": {{
			Contacts: []api.Element{
				{Op: api.LdBranches, At: 5, Branches: [][]api.Element{nil}},
				{Op: api.LdBranches, At: 8, Branches: [][]api.Element{nil, {element(api.LdOpen, 10, "A")}}},
				{Op: api.LdBranches, At: 13, Branches: [][]api.Element{{element(api.LdOpen, 14, "A")}, nil}},
				{Op: api.LdBranches, At: 18, Branches: [][]api.Element{{{Op: api.LdBranches, At: 19, Branches: [][]api.Element{nil}}}}},
			},
			Coils: []api.Element{element(api.LdCoil, 26, "Q")},
		}, {At: 28, Coils: []api.Element{element(api.LdCoil, 36, "R")}}},
	} {
		if got := ladder(t, src); !alike(got, want) {
			t.Errorf("%q:\n got %+v\nwant %+v", src, got, want)
		}
	}
}

// P7.2: the chapter's examples, and each sort of nodes and wires, whole.
func TestNetworkExamples(t *testing.T) {
	out := func(at int, to string, wire api.Expr) api.Node {
		return api.Node{Op: api.FbOut, At: at, Name: to, Wires: []api.Expr{wire}, Names: []string{""}}
	}
	turned := func(op, at int, e api.Expr) api.Expr { return api.Expr{Op: op, At: at, Kids: []api.Expr{e}} }
	for src, want := range map[string][]api.Network{
		"":                    nil,
		"NETWORK END_NETWORK": {{}},
		" network end_network\nNETWORK END_NETWORK": {{At: 1}, {At: 21}},
		"NETWORK n : INT := ADD(a, 5); n => b; t(IN := NOT c); END_NETWORK": {{Nodes: []api.Node{
			{Op: api.FbFunc, At: 8, Name: "N", Kind: api.KInt, Func: "ADD", Wires: []api.Expr{name(23, "A"), number(26, 5)}, Names: []string{"", ""}},
			out(30, "B", name(30, "N")),
			{Op: api.FbBlock, At: 38, Name: "T", Wires: []api.Expr{turned(api.OpNot, 46, name(50, "C"))}, Names: []string{"IN"}},
		}}},
		"NETWORK n:BOOL:=NOT(in:=not a.q,-3,NOT - 3,int#-3); t(); END_NETWORK": {{Nodes: []api.Node{
			{Op: api.FbFunc, At: 8, Name: "N", Kind: api.KBool, Func: "NOT", Names: []string{"IN", "", "", ""}, Wires: []api.Expr{
				turned(api.OpNot, 24, api.Expr{Op: api.ExField, At: 28, Name: "A", Field: "Q"}), turned(api.OpNeg, 32, number(33, 3)), turned(api.OpNot, 35, turned(api.OpNeg, 39, number(41, 3))),
				{Op: api.ExLit, At: 43, Value: api.Value{Kind: api.KInt, Bits: 1<<64 - 3}},
			}},
			{Op: api.FbBlock, At: 52, Name: "T"},
		}}},
		"NETWORK a.b => c; NOT TRUE => d; -5 => e; 1.5 => f; NOT 'x' => g; END_NETWORK": {{Nodes: []api.Node{
			out(8, "C", api.Expr{Op: api.ExField, At: 8, Name: "A", Field: "B"}),
			out(18, "D", turned(api.OpNot, 18, api.Expr{Op: api.ExLit, At: 22, Value: value.Bool(true)})),
			out(33, "E", turned(api.OpNeg, 33, number(34, 5))),
			out(42, "F", api.Expr{Op: api.ExLit, At: 42, Value: value.Lreal(1.5)}),
			out(52, "G", turned(api.OpNot, 52, api.Expr{Op: api.ExLit, At: 56, Value: api.Value{Kind: api.KString, Text: "x"}})),
		}}},
	} {
		if got := networks(t, src); !alike(got, want) {
			t.Errorf("%q:\n got %+v\nwant %+v", src, got, want)
		}
	}
}

// Each kind's word, and each word that may be a function's.
func TestKindsAndFunctions(t *testing.T) {
	for k := api.KBool; k < api.KRef; k++ {
		if l := networks(t, "NETWORK n : "+strings.ToLower(value.Word(k))+" := f(a); END_NETWORK"); l[0].Nodes[0].Kind != k {
			t.Error(k, l)
		}
	}
	for _, s := range strings.Fields("AND OR XOR NOT MOD ADD N INT_TO_BOOL") {
		if l := networks(t, "NETWORK n : INT := "+strings.ToLower(s)+"(a); END_NETWORK"); l[0].Nodes[0].Func != s {
			t.Error(s, l)
		}
	}
}

// P7.1 to P7.4: just what was written, with places; its form; and back.
func TestThereAndBack(t *testing.T) {
	for seed := range int64(4000) {
		m := newMaker(seed)
		want := m.ladder(int(seed % 5))
		got := ladder(t, m.b.String())
		text := graph.PrintLadder(got)
		if !alike(got, want) || text != m.form.String() {
			t.Fatalf("%q:\n got %+v\nwant %+v\n got %q\nwant %q", m.b.String(), got, want, text, m.form.String())
		}
		if back := ladder(t, text); graph.PrintLadder(back) != text || !alike(placeless(back), placeless(got)) {
			t.Fatalf("%q: %+v", text, back)
		}
	}
	for seed := range int64(4000) {
		m := newMaker(seed)
		want := m.networks(int(seed % 5))
		got := networks(t, m.b.String())
		text := graph.PrintNetworks(got)
		if !alike(got, want) || text != m.form.String() {
			t.Fatalf("%q:\n got %+v\nwant %+v\n got %q\nwant %q", m.b.String(), got, want, text, m.form.String())
		}
		if back := networks(t, text); graph.PrintNetworks(back) != text || !alike(placeless(back), placeless(got)) {
			t.Fatalf("%q: %+v", text, back)
		}
	}
}

// P7.5: two texts, one behind the other.
func TestRungByRung(t *testing.T) {
	for seed := range int64(500) {
		a, b := newMaker(seed), newMaker(seed+100000)
		both := append(a.ladder(int(seed%4)), b.ladder(int(seed%3))...)
		if got := ladder(t, a.b.String()+b.b.String()); !alike(placeless(got), placeless(both)) {
			t.Fatalf("%q %q", a.b.String(), b.b.String())
		}
		a, b = newMaker(seed), newMaker(seed+100000)
		many := append(a.networks(int(seed%4)), b.networks(int(seed%3))...)
		if got := networks(t, a.b.String()+b.b.String()); !alike(placeless(got), placeless(many)) {
			t.Fatalf("%q %q", a.b.String(), b.b.String())
		}
	}
}

// faults cuts the mark ¦ out of texts: there the fault must be told, behind what has none, too.
func faults(t *testing.T, read func(string) (int, error), ahead string, why api.Errno, list ...string) {
	t.Helper()
	for _, s := range list {
		before, behind, ok := strings.Cut(s, "¦")
		if !ok {
			t.Fatal(s)
		}
		for _, first := range []string{"", ahead} {
			n, err := read(first + before + behind)
			if n != 0 || err != error(api.Fault{At: len(first + before), Why: why}) || !errors.Is(err, why) {
				t.Errorf("%.300q: %d %v", first+s, n, err)
			}
		}
	}
}

func ladderFaults(t *testing.T, why api.Errno, list ...string) {
	t.Helper()
	faults(t, func(s string) (int, error) { l, err := graph.Ladder(s); return len(l), err }, "RUNG a [ b ] => q;\n", why, list...)
}

func networkFaults(t *testing.T, why api.Errno, list ...string) {
	t.Helper()
	faults(t, func(s string) (int, error) { l, err := graph.Networks(s); return len(l), err }, "NETWORK n : INT := F(a); t(); END_NETWORK ", why, list...)
}

// P7.1: words that can't stand there, and words that end too early.
func TestLadderFaults(t *testing.T) {
	ladderFaults(t, api.ErrToken,
		"RUNG a => ¦;", "RUNG¦", "RUNG a¦", "RUNG a =>¦", "RUNG a => q¦", "RUNG a => q,¦", "RUNG a => q, ¦;", "RUNG a => q ¦r;", "RUNG a => q ¦RUNG", "RUNG a => q; ¦a", "RUNG a => q;¦;", "¦a", "¦=>", "¦;", "¦NETWORK END_NETWORK", "¦[", "¦5", "¦END_NETWORK",
		"RUNG ¦;", "RUNG a ¦;", "RUNG a¦, b => q;", "RUNG a ¦| b => q;", "RUNG a ¦] => q;", "RUNG ¦5 => q;", "RUNG ¦TRUE => q;", "RUNG ¦NOT a => q;", "RUNG ¦(a) => q;", "RUNG ¦%IX0.0 => q;", "RUNG a ¦{x} => q;", "RUNG ¦RUNG => q;", "RUNG a ¦AND b => q;", "RUNG ¦INT => q;", "RUNG a ¦:= q;", "RUNG a ¦= q;", "RUNG a ¦& b => q;", "RUNG ¦'x' => q;",
		"RUNG ! ¦! a => q;", "RUNG !¦[ a ] => q;", "RUNG + ¦- a => q;", "RUNG -¦=> q;", "RUNG - ¦5 => q;", "RUNG !¦", "RUNG !¦;", "RUNG a.¦", "RUNG a.¦5 => q;", "RUNG a.¦!b => q;", "RUNG a.b¦.c => q;", "RUNG ¦.a => q;", "RUNG a.¦IF => q;", "RUNG a ¦.. b => q;", "RUNG a.¦[b] => q;",
		"RUNG [¦", "RUNG [ a¦", "RUNG [ a |¦", "RUNG [ a ¦=> q;", "RUNG [ a ¦;", "RUNG [ a ¦, b ] => q;", "RUNG [ a | ¦=> q;", "RUNG [ a ¦) => q;", "RUNG [ a ] ¦] => q;", "RUNG [ a ] ¦| b => q;", "RUNG [ [ a ] ¦=> q;", "RUNG [ a | b ]¦", "RUNG [ ¦5 ] => q;", "RUNG [ a ¦RUNG", "RUNG [ ! ¦] => q;", "RUNG [ ! ¦| a ] => q;",
		"RUNG => ¦5;", "RUNG => ¦[ q ];", "RUNG => ¦=> q;", "RUNG => q ¦=> r;", "RUNG => !¦;", "RUNG => !¦,", "RUNG => + ¦+ q;", "RUNG => q.¦;", "RUNG => q.r¦.s;", "RUNG => ¦NOT q;", "RUNG => q¦| r;", "RUNG => q, r¦", "RUNG => q ¦!r;", "RUNG => q, ¦, r;", "RUNG => q. ¦. r;",
	)
}

// P7.2: words that can't stand there, and words that end too early.
func TestNetworkFaults(t *testing.T) {
	networkFaults(t, api.ErrToken,
		"NETWORK¦", "NETWORK ¦;", "NETWORK ¦NETWORK", "NETWORK END_NETWORK ¦;", "NETWORK END_NETWORK ¦END_NETWORK", "¦RUNG => q;", "¦END_NETWORK", "¦a => b;", "¦n : INT := F(a);", "NETWORK a => b; ¦;", "NETWORK a => b;¦", "NETWORK ¦TO", "NETWORK ¦=> b;", "NETWORK ¦(a) => b;", "NETWORK ¦: INT", "NETWORK ¦{x} END_NETWORK", "NETWORK ¦%QX0.0 => b;", "NETWORK ¦INT", "NETWORK ¦[",
		"NETWORK a¦", "NETWORK a ¦;", "NETWORK a ¦b;", "NETWORK a ¦:= b;", "NETWORK a ¦END_NETWORK", "NETWORK a =>¦", "NETWORK a => ¦;", "NETWORK a => ¦5;", "NETWORK a => ¦NOT b;", "NETWORK a => b¦", "NETWORK a => b ¦c;", "NETWORK a => b¦.c;", "NETWORK a => b ¦END_NETWORK", "NETWORK a => b¦, c;", "NETWORK a => b ¦=> c;", "NETWORK a.¦", "NETWORK a.¦5 => b;", "NETWORK a.b¦.c => d;", "NETWORK a.b¦(c);", "NETWORK a.b ¦: INT", "NETWORK a¦[1] => b;", "NETWORK a ¦+ b => c;", "NETWORK a.b ¦;",
		"NETWORK 5 ¦;", "NETWORK 5¦. => b;", "NETWORK 5 ¦: INT", "NETWORK 5¦(a);", "NETWORK NOT¦", "NETWORK NOT ¦NOT a => b;", "NETWORK NOT ¦(a) => b;", "NETWORK NOT ¦=> b;", "NETWORK NOT a¦(b);", "NETWORK NOT a ¦: INT", "NETWORK -¦", "NETWORK -¦a => b;", "NETWORK - ¦-5 => b;", "NETWORK - ¦NOT 5 => b;", "NETWORK -¦INT#5 => b;", "NETWORK -¦TRUE => b;", "NETWORK -¦1.5 => b;", "NETWORK -¦'x' => b;", "NETWORK -¦T#1s => b;", "NETWORK NOT -¦LREAL#1 => b;", "NETWORK NOT - ¦a => b;", "NETWORK ¦+5 => b;", "NETWORK - ¦=> b;",
		"NETWORK n :¦", "NETWORK n : ¦F", "NETWORK n : ¦;", "NETWORK n : ¦TIME_OF_DAY := F(a);", "NETWORK n : ¦IF := F(a);", "NETWORK n : ¦INT#5 := F(a);", "NETWORK n : ¦ARRAY", "NETWORK n : ¦5 := F(a);", "NETWORK n ¦:= F(a);", "NETWORK n : INT¦", "NETWORK n : INT ¦F(a);", "NETWORK n : INT ¦= F(a);", "NETWORK n : INT ¦;", "NETWORK n : INT :=¦", "NETWORK n : INT := ¦5;", "NETWORK n : INT := ¦IF(a);", "NETWORK n : INT := ¦INT(a);", "NETWORK n : INT := ¦(a);", "NETWORK n : INT := ¦-(a);", "NETWORK n : INT := ¦&(a);", "NETWORK n : INT := F¦", "NETWORK n : INT := F¦;", "NETWORK n : INT := a¦.b;", "NETWORK n : INT := a ¦+ b;", "NETWORK n : INT := NOT ¦a;",
		"NETWORK n : INT := F(¦", "NETWORK n : INT := F(¦);", "NETWORK n : INT := F(a¦", "NETWORK n : INT := F(a ¦b);", "NETWORK n : INT := F(a¦;", "NETWORK n : INT := F(a,¦", "NETWORK n : INT := F(a, ¦);", "NETWORK n : INT := F(¦, a);", "NETWORK n : INT := F(a)¦", "NETWORK n : INT := F(a) ¦n => b;", "NETWORK n : INT := F(a)¦);", "NETWORK n : INT := F(a) ¦END_NETWORK", "NETWORK n : INT := F(¦(a));", "NETWORK n : INT := F(G¦(a));", "NETWORK n : INT := F(a ¦+ b);", "NETWORK n : INT := F(x :=¦", "NETWORK n : INT := F(x := ¦);", "NETWORK n : INT := F(x := a ¦:= b);", "NETWORK n : INT := F(5 ¦:= a);", "NETWORK n : INT := F(NOT ¦:= a);", "NETWORK n : INT := F(TRUE ¦:= a);", "NETWORK n : INT := F(x.y ¦:= a);", "NETWORK n : INT := F(NOT x ¦:= a);", "NETWORK n : INT := F(x ¦=> a);", "NETWORK n : INT := F(¦IF := a);", "NETWORK n : INT := F(-¦x := a);", "NETWORK n : INT := F(¦:= a);", "NETWORK n : INT := F(a, -¦INT#5);", "NETWORK n : INT := F(a.¦);",
		"NETWORK t(¦", "NETWORK t(¦5);", "NETWORK t(a¦);", "NETWORK t(a ¦=> b);", "NETWORK t(¦,);", "NETWORK t(a :=¦", "NETWORK t(a := ¦);", "NETWORK t(a := b¦", "NETWORK t(a := b¦;", "NETWORK t(a := b,¦", "NETWORK t(a := b, ¦);", "NETWORK t(a := b, c¦);", "NETWORK t(a := b, ¦5);", "NETWORK t(a := b, ¦NOT c);", "NETWORK t(a := b ¦c := d);", "NETWORK t()¦", "NETWORK t() ¦u();", "NETWORK t() ¦=> b;", "NETWORK t()¦.q => b;", "NETWORK t(a := -¦TRUE);", "NETWORK t(a := NOT ¦NOT b);", "NETWORK t(a := b ¦:= c);", "NETWORK t(¦NOT a);", "NETWORK t(a¦.b := c);", "NETWORK ¦AND(a);", "NETWORK NOT ¦(a);",
	)
}

// P7.2: a name that a function's node of the network has already, as soon as it is read with its mark.
func TestNodeFaults(t *testing.T) {
	networkFaults(t, api.ErrNode,
		"NETWORK n : INT := ADD(a); ¦n : INT := ADD(b); END_NETWORK", "NETWORK n : INT := F(a); ¦N:", "NETWORK n : INT := F(a); ¦n : 5", "NETWORK n : INT := F(a); ¦n : BOOL := (", "NETWORK m : INT := F(a); n : INT := F(a); t(); ¦m : INT", "NETWORK n : INT := F(n); n => n; ¦n : INT", "NETWORK END_NETWORK NETWORK n : INT := F(a); ¦n : INT",
	)
	for _, src := range []string{
		"NETWORK n : INT := F(a); END_NETWORK NETWORK n : INT := F(a); END_NETWORK",
		"NETWORK n : INT := F(a); m : INT := F(a); n2 : INT := F(a); END_NETWORK NETWORK m : INT := F(a); n : INT := F(a); END_NETWORK",
		"NETWORK n(); n(); n : INT := F(n); n(); n => n; n => n; n.n => n; END_NETWORK",
	} {
		networks(t, src)
	}
	networkFaults(t, api.ErrToken, "NETWORK n : INT := F(a); n¦", "NETWORK n : INT := F(a); n ¦:= b;", "NETWORK n : ¦5; n : INT := F(a);")
}

// P7.1: MaxDeep brackets, and one more; those that have ended do not count.
func TestDepth(t *testing.T) {
	const deepest = api.MaxDeep
	open, shut := strings.Repeat("[ ", deepest), strings.Repeat("] ", deepest)
	l := ladder(t, "RUNG "+open+"a "+shut+open+"| "+shut+" => q; RUNG "+open+shut+" => q;")
	e := l[0].Contacts[0]
	for range deepest - 1 {
		e = e.Branches[0][0]
	}
	if len(l) != 2 || len(l[0].Contacts) != 2 || e.Op != api.LdBranches || e.Branches[0][0].Name != "A" {
		t.Error(l)
	}
	for _, behind := range []string{"", "a ] ", "5", "[ [", "; RUNG => q;", ") :="} {
		ladderFaults(t, api.ErrDeep, "RUNG "+open+"¦["+behind, "RUNG a "+open+"b | ¦["+behind, "RUNG "+open+shut+open+"c !d ¦["+behind, "RUNG "+open+"] [ ¦["+behind)
	}
	ladderFaults(t, api.ErrToken, "RUNG "+open+"¦5 [", "RUNG "+open+shut+"¦]", "RUNG "+open+"a ¦=> q;", "RUNG "+open+"a¦")
	for _, text := range []string{"RUNG " + open + "A " + shut + "=> Q;\n", "RUNG " + open + "| " + shut + "=> Q;\n"} {
		if got := graph.PrintLadder(ladder(t, text)); got != text {
			t.Errorf("%q", got)
		}
	}
}

// P7.1, P7.2: lex's faults come first, wherever they are.
func TestScanFaults(t *testing.T) {
	for s, why := range map[string]api.Errno{"RUNG a => ; ¦#": api.ErrByte, "5 ¦12a": api.ErrNumber, "NETWORK ¦'b": api.ErrOpen, "; ¦(* a": api.ErrOpen, ") ¦abcdefghijklmnopqrstuvwxy": api.ErrName, strings.Repeat("; ", api.MaxTokens) + "¦;": api.ErrLong} {
		before, behind, _ := strings.Cut(s, "¦")
		want := error(api.Fault{At: len(before), Why: why})
		if l, err := graph.Ladder(before + behind); len(l) != 0 || err != want {
			t.Errorf("%.50q: %v", s, err)
		}
		if l, err := graph.Networks(before + behind); len(l) != 0 || err != want {
			t.Errorf("%.50q: %v", s, err)
		}
	}
	long := strings.Repeat(" ", api.MaxSource+1)
	if l, err := graph.Ladder(long); len(l) != 0 || err != error(api.Fault{Why: api.ErrLong}) {
		t.Error(err)
	}
	if l, err := graph.Networks(long); len(l) != 0 || err != error(api.Fault{Why: api.ErrLong}) {
		t.Error(err)
	}
}

// As many rungs and nodes as a text may have words for.
func TestGreat(t *testing.T) {
	if l := ladder(t, strings.Repeat("RUNG=>a;", api.MaxTokens/4)); len(l) != api.MaxTokens/4 {
		t.Error(len(l))
	}
	var b strings.Builder
	count := (api.MaxTokens - 2) / 9
	for i := range count {
		b.WriteString("n" + strings.Repeat("x", i%20) + string(rune('a'+i/20%26)) + string(rune('a'+i/520)) + ":INT:=F(a);")
	}
	if l := networks(t, "NETWORK "+b.String()+" END_NETWORK"); len(l) != 1 || len(l[0].Nodes) != count {
		t.Error(len(l))
	}
}

// Case and blanks play no part.
func TestCaseAndBlanks(t *testing.T) {
	for seed := range int64(300) {
		m := newMaker(seed)
		want := placeless(m.networks(3))
		src := m.b.String()
		words, err := lex.Scan(src)
		if err != nil {
			t.Fatal(err)
		}
		var l []string
		for _, w := range words {
			l = append(l, src[w.At:w.End])
		}
		for _, s := range []string{strings.ToUpper(src), strings.ToLower(src), strings.Join(l, " "), strings.Join(l, "\n(* ; *)\t")} {
			if got := networks(t, s); !alike(placeless(got), want) {
				t.Fatalf("%q", s)
			}
		}
	}
}

// regions is the memory of all lists in a value, their spare room too.
func regions(v reflect.Value, found *[][2]uintptr) {
	switch v.Kind() {
	case reflect.Slice:
		if v.Cap() > 0 {
			from := v.Pointer()
			*found = append(*found, [2]uintptr{from, from + uintptr(v.Cap())*v.Type().Elem().Size()})
		}
		for i := range v.Len() {
			regions(v.Index(i), found)
		}
	case reflect.Struct:
		for i := range v.NumField() {
			regions(v.Field(i), found)
		}
	}
}

// apart tells whether no two lists in some values share memory.
func apart(values ...any) bool {
	var l [][2]uintptr
	for _, v := range values {
		regions(reflect.ValueOf(v), &l)
	}
	slices.SortFunc(l, func(a, b [2]uintptr) int { return slices.Compare(a[:], b[:]) })
	for i := 1; i < len(l); i++ {
		if l[i][0] < l[i-1][1] {
			return false
		}
	}
	return true
}

// What is handed in stays; what is answered is memory of its own.
func TestMemory(t *testing.T) {
	for seed := range int64(300) {
		m := newMaker(seed)
		want := m.ladder(4)
		a, b := ladder(t, m.b.String()), ladder(t, m.b.String())
		graph.PrintLadder(a)
		if !apart(a, b) || !alike(a, want) {
			t.Fatalf("%q", m.b.String())
		}
		m = newMaker(seed)
		nets := m.networks(4)
		c, d := networks(t, m.b.String()), networks(t, m.b.String())
		graph.PrintNetworks(c)
		if !apart(c, d) || !alike(c, nets) {
			t.Fatalf("%q", m.b.String())
		}
	}
}
