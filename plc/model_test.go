package plc_test

import (
	"errors"
	"math/rand"
	"reflect"
	"slices"
	"testing"

	"relay/alloc"
	"relay/api"
	"relay/bound"
	"relay/core"
	"relay/decl"
	"relay/graph"
	"relay/graphcore"
	"relay/il"
	"relay/ilcore"
	"relay/image"
	"relay/ir"
	"relay/layout"
	"relay/lex"
	"relay/opt"
	"relay/plc"
	"relay/sfc"
	"relay/sfccore"
	"relay/st"
)

// outcome is what the chapter says of sources.
type outcome struct {
	project api.Project
	codes   []api.Code
	image   api.Image
	front   []api.Diag
	whole   []api.Diag
}

func (o *outcome) failed(front bool, l ...api.Diag) outcome {
	if front {
		return outcome{front: l, whole: l}
	}
	return outcome{project: o.project, codes: o.codes, whole: l}
}

func of(source, from int, err error) api.Diag {
	var f api.Fault
	errors.As(err, &f)
	return diag(source, f.At+from, f.Why)
}

// read is a body as the chapter's list of languages has it.
func read(lang int, text string) (stmts []api.Stmt, vars []api.Var, err error) {
	if lang == api.LangST {
		stmts, err = st.Parse(text)
	}
	if lang == api.LangIL {
		l, e := il.Parse(text)
		if err = e; e == nil {
			stmts, vars, err = ilcore.Trees(l)
		}
	}
	if lang == api.LangLD {
		l, e := graph.Ladder(text)
		if err = e; e == nil {
			stmts, vars, err = graphcore.Ladder(l)
		}
	}
	if lang == api.LangFBD {
		l, e := graph.Networks(text)
		if err = e; e == nil {
			stmts, vars, err = graphcore.Networks(l)
		}
	}
	if lang == api.LangSFC {
		l, e := sfc.Parse(text)
		if err = e; e == nil {
			stmts, vars, err = sfccore.Chart(l)
		}
	}
	return
}

// movedExpr is an expression whose places are moved.
func movedExpr(e api.Expr, by int) api.Expr {
	e.At += by
	e.Kids = slices.Clone(e.Kids)
	for i, k := range e.Kids {
		e.Kids[i] = movedExpr(k, by)
	}
	return e
}

func moved(l []api.Stmt, by int) []api.Stmt {
	var out []api.Stmt
	for _, s := range l {
		s.At += by
		s.Body, s.Else = moved(s.Body, by), moved(s.Else, by)
		s.Exprs, s.Outs = slices.Clone(s.Exprs), slices.Clone(s.Outs)
		for i, e := range s.Exprs {
			s.Exprs[i] = movedExpr(e, by)
		}
		for i, e := range s.Outs {
			s.Outs[i] = movedExpr(e, by)
		}
		out = append(out, s)
	}
	return out
}

// model is what comes of sources, sentence by sentence.
func model(sources []string) outcome {
	var o outcome
	p, source, err := decl.Parse(sources)
	if err != nil {
		return o.failed(true, of(source, 0, err))
	}
	var bodies [][]api.Stmt
	first := map[int]api.Diag{}
	var order []int
	for i, u := range p.Pous {
		stmts, vars, err := read(u.Lang, u.Text)
		d := of(u.Source, u.From, err)
		if err == nil && len(u.Vars)+len(vars) > 256 {
			d, err = diag(u.Source, u.At, api.ErrFull), api.ErrFull
		}
		if _, is := first[u.Source]; err != nil && !is {
			first[u.Source] = d
			order = append(order, u.Source)
		}
		bodies = append(bodies, moved(stmts, u.From))
		p.Pous[i].Vars = append(slices.Clone(u.Vars), vars...)
	}
	if len(order) > 0 {
		var l []api.Diag
		for _, s := range order {
			l = append(l, first[s])
		}
		return o.failed(true, l...)
	}
	if p.Name == "" {
		return o.failed(true, diag(0, 0, api.ErrConfig))
	}
	cells, source, err := layout.Cells(p)
	if err != nil {
		return o.failed(true, of(source, 0, err))
	}
	codes, pou, err := core.Check(p, bodies)
	if err != nil {
		return o.failed(true, of(p.Pous[pou].Source, 0, err))
	}
	o.project, o.codes = p, codes
	return modelImage(o, cells)
}

// modelImage is what comes of a project that has been typed.
func modelImage(o outcome, cells []api.Cell) outcome {
	p := o.project
	m := api.Image{Name: p.Name, Cells: cells}
	for i, c := range o.codes {
		f, why := ir.Build(c)
		if why == 0 {
			f, why = opt.Flat(f)
		}
		if why == 0 {
			f, why = alloc.Alloc(f, api.MaxRegs)
		}
		if why != 0 {
			return o.failed(false, diag(p.Pous[i].Source, p.Pous[i].At, why))
		}
		m.Codes = append(m.Codes, f)
	}
	for _, k := range p.Tasks {
		j := api.Job{Name: k.Name, Interval: k.Interval, Priority: k.Priority, Single: -1}
		if k.Single != "" {
			j.Single, _, _ = layout.Global(p, k.Single)
		}
		for i, r := range p.Runs {
			if r.Task == k.Name {
				code, _ := layout.Pou(p, r.Pou)
				base, _ := layout.Run(p, i)
				j.Codes, j.Bases = append(j.Codes, code), append(j.Bases, base)
			}
		}
		one, _, why := bound.Jobs(api.Image{Codes: m.Codes, Jobs: []api.Job{j}})
		for _, c := range j.Codes {
			if deep, _, _ := bound.Depth(m.Codes, c); why == 0 && deep > 16 {
				why = api.ErrGreat
			}
		}
		if why != 0 {
			return o.failed(false, diag(p.Source, k.At, why))
		}
		j.Bound = one[0].Bound
		m.Jobs = append(m.Jobs, j)
	}
	if _, _, why := image.Check(m); why != 0 {
		return o.failed(false, diag(p.Source, 0, why))
	}
	o.image = m
	return o
}

// emptied is a value whose empty lists are nil.
func emptied[T any](x T) T {
	strip(reflect.ValueOf(&x).Elem())
	return x
}

func strip(v reflect.Value) {
	switch v.Kind() {
	case reflect.Struct:
		for i := range v.NumField() {
			strip(v.Field(i))
		}
	case reflect.Slice:
		for i := range v.Len() {
			strip(v.Index(i))
		}
		if v.Len() == 0 {
			v.SetZero()
		}
	}
}

// checkModel checks what calls answer of sources, and tells how many diagnostics there are.
func checkModel(t *testing.T, sources []string) []api.Diag {
	t.Helper()
	want := model(sources)
	p, codes, front := plc.Front(sources)
	m, faults := plc.Compile(sources)
	if !slices.Equal(front, want.front) || !slices.Equal(faults, want.whole) {
		t.Fatalf("%q: %v %v, not %v %v", sources, front, faults, want.front, want.whole)
	}
	if !reflect.DeepEqual(emptied(p), emptied(want.project)) || !reflect.DeepEqual(emptied(codes), emptied(want.codes)) {
		t.Fatalf("%q: %v %v, not %v %v", sources, p, codes, want.project, want.codes)
	}
	if !reflect.DeepEqual(emptied(m), emptied(want.image)) {
		t.Fatalf("%q: %v, not %v", sources, m, want.image)
	}
	if _, mean := plc.Mean(sources, nil); !slices.Equal(mean, faults) {
		t.Fatalf("%q: %v, not %v", sources, mean, faults)
	}
	return faults
}

// spoiled is sources in which a word or two are others: mostly such as may stand there.
func spoiled(t *testing.T, r *rand.Rand, sources []string) []string {
	t.Helper()
	l := slices.Clone(sources)
	for range 1 + r.Intn(2) {
		src := &l[r.Intn(len(l))]
		words, err := lex.Scan(*src)
		if err != nil {
			continue
		}
		w, x := words[r.Intn(len(words))], words[r.Intn(len(words))]
		for range 50 {
			if w.Kind != x.Kind && r.Intn(8) > 0 {
				w, x = words[r.Intn(len(words))], words[r.Intn(len(words))]
			}
		}
		text := (*src)[x.At:x.End]
		switch r.Intn(12) {
		case 0:
			text = ""
		case 1:
			text += " " + (*src)[w.At:w.End]
		}
		*src = (*src)[:w.At] + text + (*src)[w.End:]
	}
	return l
}

// P24.1, P24.2, P24.6: sources have an image that may be, or diagnostics, as the chapter's sentences have it; places lie in their sources.
func TestModel(t *testing.T) {
	why, several, sound := map[api.Errno]int{}, 0, 0
	each(250, func(r *rand.Rand, sources []string) {
		if faults := checkModel(t, sources); len(faults) > 0 {
			t.Fatalf("%q: %v", sources, faults)
		}
		for range 6 {
			l := spoiled(t, r, sources)
			faults := checkModel(t, l)
			if len(faults) == 0 {
				sound++
			}
			if len(faults) > 1 {
				several++
			}
			for _, d := range faults {
				why[d.Fault.Why]++
				if d.Source < 0 || d.Source >= len(l) || d.Fault.At < 0 || d.Fault.At > len(l[d.Source]) {
					t.Fatalf("%q: %v", l, d)
				}
			}
		}
	})
	if len(why) < 15 || several < 10 || sound < 20 {
		t.Error(why, several, sound)
	}
}
