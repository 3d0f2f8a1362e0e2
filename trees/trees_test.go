package trees_test

import (
	"reflect"
	"testing"

	"relay/api"
	"relay/shown"
	"relay/trees"
)

func TestParts(t *testing.T) {
	a, b := trees.Name(3, "A"), trees.Truth(4, false)
	l := []api.Stmt{
		trees.Set(1, a, trees.Not(5, trees.Both(api.OpOr, 6, b, trees.Truth(7, true)))),
		trees.If(2, a, trees.Set(8, a, b), trees.Set(9, b, a)),
		trees.If(10, a),
	}
	if got := shown.Placed(l); got != "1> 3:A := (5:NOT (4:FALSE 6:OR 7:TRUE)); 2> IF 3:A THEN 8> 3:A := 4:FALSE; 9> 4:FALSE := 3:A; END_IF; 10> IF 3:A THEN  END_IF;" {
		t.Error(got)
	}
}

// A copy has all that there is, in memory of its own; a change is made from within.
func TestCopy(t *testing.T) {
	inner := make([]api.Expr, 1, 4)
	inner[0] = api.Expr{Op: api.ExName, At: 2, Name: "A", Field: "B", Kind: 3, Area: 4, Ref: 5, From: 6, To: 7, Value: api.Value{Text: "X"}}
	e := api.Expr{Op: api.ExCall, Name: "F", Kids: inner, Names: []string{"IN"}}
	c := trees.Copy(e)
	if !reflect.DeepEqual(c, e) {
		t.Error(c)
	}
	c.Kids[0].Name, c.Names[0] = "Z", "Z"
	if inner[0].Name != "A" || e.Names[0] != "IN" {
		t.Error(e)
	}
	l := trees.Copies([]api.Expr{e, e})
	if !reflect.DeepEqual(l, []api.Expr{e, e}) || &l[0].Kids[0] == &l[1].Kids[0] || len(trees.Copies(nil)) != 0 {
		t.Error(l)
	}
	var seen string
	rename := func(e api.Expr) api.Expr {
		seen += e.Name
		e.Name += "1"
		return e
	}
	all := trees.AllChanged([]api.Expr{e, {Op: api.ExName, Name: "C"}}, rename)
	if seen != "AFC" || all[0].Name != "F1" || all[0].Kids[0].Name != "A1" || all[1].Name != "C1" || e.Name != "F" || inner[0].Name != "A" {
		t.Error(seen, all)
	}
}

// Statements are copied with all that they have; each expression in them is changed, formal names are not.
func TestStmtsChanged(t *testing.T) {
	a := []api.Expr{trees.Field(2, "A", "X")}
	inner := []api.Stmt{{Op: api.StReturn, At: 8}}
	s := api.Stmt{Op: 1, At: 2, Name: "A", Num: 3, Exprs: a, Names: []string{"A"}, Outs: a, OutNames: []string{"A"}, Ranges: []api.Range{{Lo: 4, Hi: 5}}, Body: inner, Else: inner, Kind: 5, Area: 6, Ref: 7}
	l := []api.Stmt{s, {Op: api.StIf, Body: []api.Stmt{s}, Else: []api.Stmt{s}}}
	same := func(e api.Expr) api.Expr { return e }
	if c := trees.StmtsChanged(l, same); !reflect.DeepEqual(c, l) {
		t.Error(c)
	}
	rename := func(e api.Expr) api.Expr {
		e.Name = "Z"
		return e
	}
	c := trees.StmtsChanged(l, rename)
	for _, x := range []api.Stmt{c[0], c[1].Body[0], c[1].Else[0]} {
		if x.Exprs[0].Name != "Z" || x.Outs[0].Name != "Z" || x.Names[0] != "A" || x.OutNames[0] != "A" || x.Name != "A" {
			t.Error(x)
		}
		x.Names[0], x.OutNames[0], x.Ranges[0].Lo, x.Body[0].At, x.Else[0].At = "Y", "Y", 9, 9, 9
	}
	if a[0].Name != "A" || s.Names[0] != "A" || s.OutNames[0] != "A" || s.Ranges[0].Lo != 4 || inner[0].At != 8 || len(trees.StmtsChanged(nil, same)) != 0 {
		t.Error(l)
	}
}

// Each counter counts by itself; variables stand in the order in which they came.
func TestHidden(t *testing.T) {
	var h trees.Hidden
	if len(h.Vars()) != 0 {
		t.Error(h)
	}
	e, p, acc := h.Counter("_E"), h.Counter("_P"), h.Once("_ACC", trees.Var(api.VarTemp, api.KInt))
	var names []string
	for range 2 {
		names = append(names, e(trees.Var(api.VarTemp, api.KBool)), acc(), p(api.Var{Class: api.VarLocal, Keep: true}), acc())
	}
	want := []api.Var{
		{Name: "_E1", Class: api.VarTemp, Type: api.Type{Kind: api.KBool}},
		{Name: "_ACC", Class: api.VarTemp, Type: api.Type{Kind: api.KInt}},
		{Name: "_P1", Class: api.VarLocal, Keep: true},
		{Name: "_E2", Class: api.VarTemp, Type: api.Type{Kind: api.KBool}},
		{Name: "_P2", Class: api.VarLocal, Keep: true},
	}
	if !reflect.DeepEqual(names, []string{"_E1", "_ACC", "_P1", "_ACC", "_E2", "_ACC", "_P2", "_ACC"}) || !reflect.DeepEqual(h.Vars(), want) {
		t.Error(names, h.Vars())
	}
	// A variable that is never asked for is not there; two bodies know nothing of one another.
	var other trees.Hidden
	other.Once("_ACC", api.Var{})
	if name := other.Counter("_E")(api.Var{}); name != "_E1" || len(other.Vars()) != 1 || len(h.Vars()) != 5 {
		t.Error(name, other.Vars())
	}
}
