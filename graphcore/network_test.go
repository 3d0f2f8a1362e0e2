package graphcore_test

import (
	"errors"
	"math/rand"
	"reflect"
	"slices"
	"sort"
	"strconv"
	"strings"
	"testing"

	"relay/api"
	"relay/graphcore"
	"relay/shown"
)

// P11.2 and the chapter's second example: every sort of node, and their order.
func TestNetworks(t *testing.T) {
	for src, want := range map[string]string{
		"":                    "",
		"NETWORK END_NETWORK": "",
		"NETWORK m : INT := MUL(n, 2); n : INT := ADD(a, 1); m => b; END_NETWORK": "_N2 := ADD(A, 1); _N1 := MUL(_N2, 2); B := _N1;",
		// Functions, instances, outputs; formal names; NOT and -.
		"NETWORK n : BOOL := SEL(G := NOT a, 5, IN1 := -7); END_NETWORK":                          "_N1 := SEL(G := (NOT A), 5, IN1 := (-7));",
		"NETWORK t(IN := a, PT := u.q); t(); END_NETWORK":                                         "T(IN := A, PT := U.Q|); T(|);",
		"NETWORK a => b; NOT a.x => c; TRUE => d; -3 => e; END_NETWORK":                           "B := A; C := (NOT A.X); D := TRUE; E := (-3);",
		"NETWORK m : INT := MOD(a, 2); n : BOOL := NOT(m); NOT n => q; END_NETWORK":               "_N1 := MOD(A, 2); _N2 := NOT(_N1); Q := (NOT _N2);",
		"NETWORK x : BOOL := AND(a, b); y : BOOL := OR(x, c); z : BOOL := XOR(y, x); END_NETWORK": "_N1 := AND(A, B); _N2 := OR(_N1, C); _N3 := XOR(_N2, _N1);",
		// Those that wait for none stay in their order; those that can go on do so ahead of all behind them.
		"NETWORK a => x; b => y; c => z; END_NETWORK":                                    "X := A; Y := B; Z := C;",
		"NETWORK n => x; b => y; n : INT := F(a); c => z; END_NETWORK":                   "Y := B; _N1 := F(A); X := _N1; Z := C;",
		"NETWORK n => x; m => y; m : INT := F(n); n : INT := F(a); c => z; END_NETWORK":  "_N2 := F(A); X := _N2; _N1 := F(_N2); Y := _N1; Z := C;",
		"NETWORK t.q => x; t(IN := n); n : BOOL := NOT(u.q); u(); t.q => y; END_NETWORK": "U(|); _N1 := NOT(U.Q); T(IN := _N1|); X := T.Q; Y := T.Q;",
		// Of an instance that stands twice it is waited for both.
		"NETWORK t.q => x; t(IN := a); t(IN := n); b => y; n : BOOL := NOT(c); END_NETWORK": "T(IN := A|); Y := B; _N1 := NOT(C); T(IN := _N1|); X := T.Q;",
		// Other networks' nodes are others.
		"NETWORK n => x; t.q => y; END_NETWORK NETWORK n : INT := F(n1); t(); END_NETWORK NETWORK n => z; END_NETWORK": "X := N; Y := T.Q; _N1 := F(N1); T(|); Z := N;",
		"NETWORK n : INT := F(a); n => x; END_NETWORK NETWORK n => y; n : BOOL := F(b); END_NETWORK":                   "_N1 := F(A); X := _N1; _N2 := F(B); Y := _N2;",
		// A function's name is no instance's, an instance's no function's, an output's neither.
		"NETWORK n.q => x; n : INT := F(a); t => y; t(); a => z; z => w; END_NETWORK": "X := N.Q; _N1 := F(A); Y := T; T(|); Z := A; W := Z;",
		"NETWORK n : INT := F(n.q); n(IN := b); END_NETWORK":                          "N(IN := B|); _N1 := F(N.Q);",
		"NETWORK n => n; n : INT := F(a); END_NETWORK":                                "_N1 := F(A); N := _N1;",
		// Formal names, functions and fields are no wires.
		"NETWORK n : INT := F(F := a); f : INT := N(n); t(IN := x.n, N := b); END_NETWORK": "_N1 := F(F := A); _N2 := N(_N1); T(IN := X.N, N := B|);",
	} {
		s, _, err := graphcore.Networks(networks(t, src))
		if got := shown.Stmts(s); got != want || err != nil {
			t.Errorf("%q: %s, not %s, %v", src, got, want, err)
		}
	}
}

// Hidden variables are in the order of the text, of their nodes' kinds.
func TestNetworkVars(t *testing.T) {
	_, v, err := graphcore.Networks(networks(t, "NETWORK m : INT := F(n); t(IN := m); n : TIME := F(a); END_NETWORK NETWORK END_NETWORK NETWORK m => b; m : STRING := F(a); END_NETWORK"))
	want := []api.Var{
		{Name: "_N1", Class: api.VarTemp, Type: api.Type{Kind: api.KInt}},
		{Name: "_N2", Class: api.VarTemp, Type: api.Type{Kind: api.KTime}},
		{Name: "_N3", Class: api.VarTemp, Type: api.Type{Kind: api.KString}},
	}
	if err != nil || !reflect.DeepEqual(v, want) {
		t.Error(v, err)
	}
	if _, v, err = graphcore.Networks(networks(t, "NETWORK a => b; t(); END_NETWORK")); len(v) != 0 || err != nil {
		t.Error(v, err)
	}
}

// Statements and calls have their node's place, wires their own.
func TestNetworkPlaces(t *testing.T) {
	for src, want := range map[string]string{
		" NETWORK m : INT := MUL(n, 2); n : INT := ADD(a, 1); m => b; END_NETWORK": "31> 0:_N2 := 31:ADD(46:A, 49:1); 9> 0:_N1 := 9:MUL(24:_N2, 27:2); 53> 0:B := 53:_N1;",
		"NETWORK  t(IN := NOT a.b); NOT - 5 => q; END_NETWORK":                     "9> T(IN := (17:NOT 21:A.B)|); 27> 0:Q := (27:NOT (31:-33:5));",
	} {
		s, _, err := graphcore.Networks(networks(t, src))
		if got := shown.Placed(s); got != want || err != nil {
			t.Errorf("%q: %s, not %s, %v", src, got, want, err)
		}
	}
}

// ErrRing at the first node that was not done; the sign ¦ is at its place, and no part of the text.
func TestRings(t *testing.T) {
	for _, marked := range []string{
		"NETWORK ¦n : INT := ADD(n, 1); END_NETWORK",
		"NETWORK ¦n : INT := ADD(1, NOT n); END_NETWORK",
		"NETWORK ¦t(IN := t.q); END_NETWORK",
		"NETWORK ¦t(IN := NOT t.q); END_NETWORK",
		"NETWORK ¦m : INT := F(n); n : INT := F(m); END_NETWORK",
		"NETWORK ¦a : INT := F(b); b : INT := F(c); c : INT := F(a); END_NETWORK",
		"NETWORK ¦t(IN := u.q); u(IN := t.q); END_NETWORK",
		"NETWORK ¦t(IN := n); n : INT := F(t.q); END_NETWORK",
		"NETWORK ¦n(IN := n); n : INT := F(n.q); END_NETWORK",
		// Nodes that can be done play no part, wherever they stand.
		"NETWORK a => b; k : INT := F(a); ¦n : INT := ADD(n, k); n2 : INT := F(k); END_NETWORK",
		"NETWORK k => b; ¦n : INT := ADD(n, k); k : INT := F(a); END_NETWORK",
		// The first one that was not done needs not be in the ring.
		"NETWORK ¦n => b; n : INT := ADD(n, 1); END_NETWORK",
		"NETWORK a => c; ¦m => b; m : INT := F(n); n : INT := ADD(n, 1); END_NETWORK",
		// An instance that stands twice waits for itself in both.
		"NETWORK t(IN := a); ¦t(IN := t.q); END_NETWORK",
		"NETWORK ¦t(IN := t.q); t(IN := a); END_NETWORK",
		"NETWORK ¦n : INT := F(t.q); t(IN := a); t(IN := n); END_NETWORK",
		// Of several networks the first one that has a ring.
		"NETWORK n : INT := F(a); END_NETWORK NETWORK ¦n : INT := F(n); END_NETWORK NETWORK m : INT := F(m); END_NETWORK",
		"NETWORK END_NETWORK NETWORK a => b; ¦t(IN := t.q); END_NETWORK",
	} {
		src := strings.Replace(marked, "¦", "", 1)
		s, v, err := graphcore.Networks(networks(t, src))
		if want := (api.Fault{At: strings.Index(marked, "¦"), Why: api.ErrRing}); err != error(want) || !errors.Is(err, api.ErrRing) || len(s)+len(v) != 0 {
			t.Errorf("%q: %v, not %v", src, err, want)
		}
	}
}

// networksAsModel holds what is answered against the model, places and all; it tells whether there was no ring.
func networksAsModel(t *testing.T, l []api.Network) bool {
	t.Helper()
	s, v, err := graphcore.Networks(l)
	want, vars, ring := networksModel(l)
	if ring >= 0 {
		if err != error(api.Fault{At: ring, Why: api.ErrRing}) || len(s)+len(v) != 0 {
			t.Fatalf("%+v: %v, not a ring at %d", l, err, ring)
		}
		return false
	}
	if got := shown.Placed(s); err != nil || got != want || !reflect.DeepEqual(v, vars) {
		t.Fatalf("%+v:\n%s\n%s\n%v", l, got, want, err)
	}
	return true
}

func TestNetworksByChance(t *testing.T) {
	good := 0
	for seed := range int64(8000) {
		if networksAsModel(t, networks(t, newMaker(seed).networks(3))) {
			good++
		}
	}
	if good < 2000 || good > 7500 {
		t.Error(good)
	}
}

// All networks of three nodes out of some.
func TestAllSmallNetworks(t *testing.T) {
	nodes := []string{"a => b", "n => b", "t.q => b", "n : INT := F(a)", "n : INT := F(t.q, a)", "n : INT := F(m)", "n : INT := F(n)", "m : INT := F(n)", "m : INT := F(t.q)", "t()", "t(IN := n)", "t(IN := m, PT := n)", "t(IN := t.q)", "u(IN := t.q)", "t(IN := u.q)", "n(IN := m.x)", "m => n"}
	for _, a := range nodes {
		for _, b := range nodes {
			for _, c := range nodes {
				functions := map[string]int{}
				for _, x := range []string{a, b, c} {
					if strings.Contains(x, " : ") {
						functions[x[:1]]++
					}
				}
				if functions["n"] > 1 || functions["m"] > 1 {
					continue
				}
				networksAsModel(t, networks(t, "NETWORK "+a+"; "+b+"; "+c+"; END_NETWORK NETWORK "+c+"; END_NETWORK"))
			}
		}
	}
}

// Nodes of other Ops are left out, with their names and wires; an output without a wire is TRUE; of several nodes of functions with one name a wire takes the first.
func TestOtherNodes(t *testing.T) {
	n := []api.Expr{{Op: api.ExName, At: 9, Name: "N"}}
	for op := -2; op < 9; op++ {
		if op >= api.FbFunc && op <= api.FbOut {
			continue
		}
		odd := api.Node{Op: op, At: 3, Name: "N", Wires: n, Names: []string{""}}
		s, v, err := graphcore.Networks([]api.Network{{Nodes: []api.Node{odd, {Op: api.FbOut, At: 5, Name: "B", Wires: n, Names: []string{""}}}}})
		if got := shown.Placed(s); got != "5> 0:B := 9:N;" || len(v) != 0 || err != nil {
			t.Error(got, v, err)
		}
	}
	s, _, err := graphcore.Networks([]api.Network{{Nodes: []api.Node{{Op: api.FbOut, At: 5, Name: "B"}}}})
	if got := shown.Placed(s); got != "5> 0:B := 0:TRUE;" || err != nil {
		t.Error(got, err)
	}
	s, v, err := graphcore.Networks([]api.Network{{Nodes: []api.Node{{Op: api.FbOut, Name: "B", Wires: n}, {Op: api.FbFunc, Name: "N", Func: "F"}, {Op: api.FbFunc, Name: "N", Func: "G"}}}})
	if got := shown.Stmts(s); got != "_N1 := F(); _N2 := G(); B := _N1;" || len(v) != 2 || err != nil {
		t.Error(got, v, err)
	}
}

// Whatever nodes are, the call ends; what the model knows of is as it has it.
func TestNodesByHand(t *testing.T) {
	r := rand.New(rand.NewSource(3))
	for seed := range int64(8000) {
		l := networks(t, newMaker(seed).networks(3))
		for range 1 + r.Intn(3) {
			shake(r, reflect.ValueOf(&l).Elem())
		}
		s, v, err := graphcore.Networks(l)
		vars, ring := ringModel(l)
		if ring >= 0 != (err != nil) || err != nil && len(s)+len(v) > 0 || err == nil && !reflect.DeepEqual(v, vars) {
			t.Fatalf("%+v: %v %v", l, v, err)
		}
	}
}

// ringModel is the model without its text, which nodes made by hand may lack: the variables, and the number of a node that was not done (-1: there is none).
func ringModel(l []api.Network) ([]api.Var, int) {
	var vars []api.Var
	for _, network := range l {
		for _, n := range network.Nodes {
			if n.Op == api.FbFunc {
				vars = append(vars, hidden("_N", len(vars)+1, api.VarTemp, n.Kind))
			}
		}
		if _, ring := orderModel(network.Nodes); ring >= 0 {
			return nil, ring
		}
	}
	return vars, -1
}

// P11.4: the order of nodes plays no part, numbers, places and order aside.
func TestOrderPlaysNoPart(t *testing.T) {
	r := rand.New(rand.NewSource(4))
	moved := 0
	for seed := range int64(4000) {
		l := networks(t, newMaker(seed).oneNetwork())
		want, ok := lines(t, l[0].Nodes)
		nodes := slices.Clone(l[0].Nodes)
		r.Shuffle(len(nodes), func(i, j int) { nodes[i], nodes[j] = nodes[j], nodes[i] })
		got, still := lines(t, nodes)
		if ok != still || !slices.Equal(got, want) {
			t.Fatalf("%v\n%v\n%+v", got, want, nodes)
		}
		if ok && len(want) > 3 {
			moved++
		}
	}
	if moved < 300 {
		t.Error(moved)
	}
}

// oneNetwork writes a network with more nodes.
func (m maker) oneNetwork() string {
	s := "NETWORK "
	for _, n := range m.r.Perm(5)[:m.r.Intn(6)] {
		s += "n" + strconv.Itoa(n) + " : INT := ADD(" + m.pick("a", "1", "n"+strconv.Itoa(n+1), "n"+strconv.Itoa(n+2), "t.q") + ", b); "
	}
	for range m.r.Intn(4) {
		s += m.pick("t(IN := n1)", "t(IN := a)", "u(IN := t.q)", "n2 => x", "u.q => y", "n5 => z", "t.q => n1") + "; "
	}
	return s + "END_NETWORK"
}

// lines is the statements of nodes, each with its functions' nodes' names in the place of hidden ones, sorted; false of a ring.
func lines(t *testing.T, nodes []api.Node) ([]string, bool) {
	s, _, err := graphcore.Networks([]api.Network{{Nodes: nodes}})
	if err != nil {
		return nil, false
	}
	var pairs []string
	for _, n := range nodes {
		if n.Op == api.FbFunc {
			pairs = append(pairs, "_N"+strconv.Itoa(len(pairs)/2+1), "the "+n.Name)
		}
	}
	var l []string
	for _, x := range s {
		l = append(l, strings.NewReplacer(pairs...).Replace(shown.Stmts([]api.Stmt{x})))
	}
	sort.Strings(l)
	return l, true
}

// Many nodes that wait for those behind them, and deep wires.
func TestGreatNetworks(t *testing.T) {
	const count = 1500
	src := "NETWORK "
	for i := range count {
		src += "n" + strconv.Itoa(i) + " : INT := F(n" + strconv.Itoa(i+1) + "); "
	}
	s, v, err := graphcore.Networks(networks(t, src+"END_NETWORK"))
	if err != nil || len(v) != count || len(s) != count || shown.Stmts(s[:2]) != "_N1500 := F(N1500); _N1499 := F(_N1500);" || shown.Stmts(s[count-1:]) != "_N1 := F(_N2);" {
		t.Error(len(s), len(v), err)
	}
	e := api.Expr{Op: api.ExName, Name: "T"}
	for range 1 << 16 {
		e = api.Expr{Op: api.OpNot, Kids: []api.Expr{e}}
	}
	l := []api.Network{{Nodes: []api.Node{{Op: api.FbOut, Name: "B", Wires: []api.Expr{e}}, {Op: api.FbFunc, Name: "T", Func: "F"}}}}
	if s, _, err := graphcore.Networks(l); err != nil || len(s) != 2 || shown.Stmts(s[:1]) != "_N1 := F();" {
		t.Error(len(s), err)
	}
	// Nodes of one instance in great numbers, and as many that wait for all of them.
	var nodes []api.Node
	q := []api.Expr{{Op: api.ExField, Name: "T", Field: "Q"}}
	for range 30000 {
		nodes = append(nodes, api.Node{Op: api.FbOut, Name: "B", Wires: q, Names: []string{""}}, api.Node{Op: api.FbBlock, Name: "T"})
	}
	if s, _, err := graphcore.Networks([]api.Network{{Nodes: nodes}}); err != nil || len(s) != 60000 || s[29999].Op != api.StCall || s[30000].Op != api.StSet {
		t.Error(len(s), err)
	}
}
