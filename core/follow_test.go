package core_test

import (
	"math/rand"
	"reflect"
	"slices"
	"testing"

	"relay/api"
	"relay/core"
	"relay/layout"
	"relay/meaning"
	"relay/samples"
	"relay/value"
)

// made is a project by chance that has no fault, its bodies and codes.
type made struct {
	r      *rand.Rand
	p      api.Project
	bodies [][]api.Stmt
	codes  []api.Code
}

// each hands on n projects by chance.
func each(t *testing.T, n int, to func(m made)) {
	t.Helper()
	for seed := range n {
		r := rand.New(rand.NewSource(int64(seed)))
		sources := samples.Sources(r.Intn)
		p, bodies := parsed(t, sources...)
		codes, pou, err := core.Check(p, bodies)
		if err != nil || pou != 0 || len(codes) != len(p.Pous) {
			t.Fatal(seed, sources, pou, err)
		}
		to(made{r, p, bodies, codes})
	}
}

// exprs hands on all expressions in statements, those of places too.
func exprs(l []api.Stmt, to func(e *api.Expr)) {
	var inner func(e *api.Expr)
	inner = func(e *api.Expr) {
		to(e)
		for i := range e.Kids {
			inner(&e.Kids[i])
		}
	}
	for i := range l {
		for k := range l[i].Exprs {
			inner(&l[i].Exprs[k])
		}
		for k := range l[i].Outs {
			inner(&l[i].Outs[k])
		}
		exprs(l[i].Body, to)
		exprs(l[i].Else, to)
	}
}

// stmts hands on all statements, the inner ones too.
func stmts(l []api.Stmt, to func(s *api.Stmt)) {
	for i := range l {
		to(&l[i])
		stmts(l[i].Body, to)
		stmts(l[i].Else, to)
	}
}

// instance is where a POU lies.
type instance struct{ pou, base int }

// instances is all functions' frames, programs' instances and instances within them.
func (m made) instances() []instance {
	var l []instance
	var put func(pou, base int)
	put = func(pou, base int) {
		l = append(l, instance{pou, base})
		for _, v := range m.p.Pous[pou].Vars {
			if inner, is := layout.Pou(m.p, v.Type.Block); is && m.p.Pous[inner].What == api.PouBlock {
				at, _, _ := layout.Find(m.p, pou, v.Name)
				put(inner, base+at)
			}
		}
	}
	for i := range m.p.Pous {
		if base, is := layout.Base(m.p, i); is {
			put(i, base)
		}
	}
	for i, r := range m.p.Runs {
		pou, _ := layout.Pou(m.p, r.Pou)
		base, _ := layout.Run(m.p, i)
		put(pou, base)
	}
	return l
}

// cellsWith is all cells with values by chance; VarInOuts refer to cells of their types. Those instances for which there is none are told.
func (m made) cellsWith(l []instance) ([]api.Cell, []api.Value, map[instance]bool) {
	cells, _, _ := layout.Cells(m.p)
	mem := make([]api.Value, len(cells))
	for i, c := range cells {
		mem[i] = some1(m.r, c)
	}
	lost := map[instance]bool{}
	for _, x := range l {
		for _, v := range m.p.Pous[x.pou].Vars {
			if v.Class != api.VarInOut {
				continue
			}
			var fit []int
			for i, c := range cells {
				if c.Kind == v.Type.Kind && c.Sub == v.Type.Sub && c.Lo == v.Type.Lo && c.Hi == v.Type.Hi && c.Max == v.Type.Max {
					fit = append(fit, i)
				}
			}
			at, _, _ := layout.Find(m.p, x.pou, v.Name)
			if len(fit) == 0 {
				lost[x] = true
				continue
			}
			mem[x.base+at].Bits = uint64(fit[m.r.Intn(len(fit))])
		}
	}
	return cells, mem, lost
}

// some1 is a value by chance that a cell may have.
func some1(r *rand.Rand, c api.Cell) api.Value {
	if c.Kind == api.KRef || r.Intn(3) == 0 {
		return c.Init
	}
	v, fault := value.Int(c.Kind, r.Intn(20)-5)
	if fault != 0 || c.Sub && value.Fits(api.Type{Kind: c.Kind, Sub: true, Lo: c.Lo, Hi: c.Hi}, v) != 0 {
		return c.Init
	}
	return v
}

// P15.3: what an expression is in a run is of its Kind; and each expression has one.
func TestKindsStay(t *testing.T) {
	counts := map[int]int{}
	var kinds [api.NumKind]int
	each(t, 400, func(m made) {
		l := m.instances()
		cells, mem, lost := m.cellsWith(l)
		for _, x := range l {
			if lost[x] {
				continue
			}
			exprs(m.codes[x.pou].Body, func(e *api.Expr) {
				if e.Kind == api.KNone || e.Kind > api.KRef {
					t.Fatal(writer{}.expr(*e))
				}
				v, _, fault := meaning.Value(m.codes, *e, x.base, 5, cells, mem, 10000)
				if fault == 0 && v.Kind != e.Kind || fault == api.FaultKind || fault == api.FaultRef {
					t.Fatal(writer{}.expr(*e), v, fault)
				}
				if fault == 0 {
					counts[e.Op]++
					kinds[e.Kind]++
				}
			})
		}
	})
	for op := api.OpAdd; op < api.NumEx; op++ {
		if counts[op] < 30 {
			t.Error(op, counts[op])
		}
	}
	if i := slices.IndexFunc(kinds[1:], func(n int) bool { return n < 200 }); i >= 0 {
		t.Error(i+1, kinds)
	}
}

// P15.4: a further POU behind all others changes no other one's code.
func TestPouByPou(t *testing.T) {
	each(t, 300, func(m made) {
		for _, src := range []string{
			"FUNCTION zz : DINT VAR_INPUT a : INT; END_VAR VAR x : ARRAY [1..9] OF LREAL; END_VAR zz := a; END_FUNCTION",
			"FUNCTION_BLOCK zz VAR_INPUT a : INT; END_VAR VAR k : TON; n : INT; END_VAR n := MAX(a, n); END_FUNCTION_BLOCK",
			"PROGRAM zz VAR k : TON; n : INT; END_VAR n := 1; k(); END_PROGRAM",
		} {
			more, body := parsed(t, src)
			p := m.p
			p.Pous = append(slices.Clone(p.Pous), more.Pous...)
			codes, _, err := core.Check(p, append(slices.Clone(m.bodies), body...))
			if err != nil || len(codes) != len(m.codes)+1 || !reflect.DeepEqual(codes[:len(m.codes)], m.codes) {
				t.Fatal(src, err)
			}
		}
	})
}

// renamed is a project in which a variable of a POU (of none, -1: a global one) has another name, everywhere.
func (m made) renamed(pou int, from, to string) (api.Project, [][]api.Stmt) {
	p := m.p
	p.Pous = slices.Clone(p.Pous)
	p.Globals = slices.Clone(p.Globals)
	bodies := make([][]api.Stmt, len(m.bodies))
	isFrom := func(v api.Var) bool { return v.Name == from }
	if pou < 0 {
		p.Globals[slices.IndexFunc(p.Globals, isFrom)].Name = to
	}
	for i := range p.Pous {
		u := &p.Pous[i]
		u.Vars = slices.Clone(u.Vars)
		bodies[i] = copied(m.bodies[i])
		block := func(name string) bool {
			k := slices.IndexFunc(m.p.Pous[i].Vars, func(v api.Var) bool { return v.Name == name })
			return pou >= 0 && k >= 0 && m.p.Pous[i].Vars[k].Type.Block == m.p.Pous[pou].Name
		}
		formals := func(l []string) {
			for k := range l {
				if l[k] == from {
					l[k] = to
				}
			}
		}
		stmts(bodies[i], func(s *api.Stmt) {
			if s.Op == api.StCall && block(s.Name) {
				formals(s.Names)
				formals(s.OutNames)
			}
		})
		exprs(bodies[i], func(e *api.Expr) {
			if e.Op == api.ExCall && pou >= 0 && e.Name == m.p.Pous[pou].Name {
				formals(e.Names)
			}
			if e.Op == api.ExField && e.Field == from && block(e.Name) {
				e.Field = to
			}
		})
		k := slices.IndexFunc(u.Vars, isFrom)
		if k < 0 || pou >= 0 && pou != i || pou < 0 && u.Vars[k].Class != api.VarExternal {
			continue
		}
		u.Vars[k].Name = to
		stmts(bodies[i], func(s *api.Stmt) {
			if s.Name == from {
				s.Name = to
			}
		})
		exprs(bodies[i], func(e *api.Expr) {
			if e.Op != api.ExCall && e.Name == from {
				e.Name = to
			}
		})
	}
	return p, bodies
}

// copied is statements in memory of their own.
func copied(l []api.Stmt) []api.Stmt {
	out := slices.Clone(l)
	var all func(l []api.Expr) []api.Expr
	all = func(l []api.Expr) []api.Expr {
		out := slices.Clone(l)
		for i := range out {
			out[i].Kids, out[i].Names = all(out[i].Kids), slices.Clone(out[i].Names)
		}
		return out
	}
	for i := range out {
		s := &out[i]
		s.Exprs, s.Outs, s.Names, s.OutNames, s.Ranges = all(s.Exprs), all(s.Outs), slices.Clone(s.Names), slices.Clone(s.OutNames), slices.Clone(s.Ranges)
		s.Body, s.Else = copied(s.Body), copied(s.Else)
	}
	return out
}

// nameless is codes without the names of variables.
func nameless(codes []api.Code) []api.Code {
	out := slices.Clone(codes)
	for i := range out {
		out[i].Body = copied(out[i].Body)
		stmts(out[i].Body, func(s *api.Stmt) { s.Name = "" })
		exprs(out[i].Body, func(e *api.Expr) { e.Name, e.Field = "", "" })
	}
	return out
}

// P15.5: with a variable named otherwise the codes are the same, but for its name.
func TestNamesPlayNoPart(t *testing.T) {
	told := 0
	each(t, 60, func(m made) {
		want := nameless(m.codes)
		try := func(pou int, name string) {
			p, bodies := m.renamed(pou, name, "ZZ")
			codes, _, err := core.Check(p, bodies)
			if err != nil || !reflect.DeepEqual(nameless(codes), want) {
				t.Fatal(pou, name, err)
			}
			told++
		}
		for i, u := range m.p.Pous {
			for _, v := range u.Vars {
				if v.Class != api.VarExternal {
					try(i, v.Name)
				}
			}
		}
		for _, v := range m.p.Globals {
			try(-1, v.Name)
		}
	})
	if told < 1000 {
		t.Error(told)
	}
}
