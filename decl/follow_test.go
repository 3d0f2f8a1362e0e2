package decl_test

import (
	"errors"
	"math/rand"
	"reflect"
	"strings"
	"testing"

	"relay/api"
	"relay/decl"
	"relay/lex"
	"relay/value"
)

// plain is a project in which empty lists are nil.
func plain(p api.Project) api.Project {
	for i := range p.Pous {
		p.Pous[i].Vars = plainVars(p.Pous[i].Vars)
	}
	p.Globals = plainVars(p.Globals)
	return p
}

func plainVars(l []api.Var) []api.Var {
	for i := range l {
		if len(l[i].Init) == 0 {
			l[i].Init = nil
		}
	}
	if len(l) == 0 {
		return nil
	}
	return l
}

// placeless is a project without places and sources.
func placeless(p api.Project) api.Project {
	p = plain(p)
	p.Source = 0
	for i := range p.Types {
		p.Types[i].At = 0
	}
	for i := range p.Consts {
		p.Consts[i].At = 0
	}
	for i := range p.Pous {
		x := &p.Pous[i]
		x.At, x.From, x.Source = 0, 0, 0
		for k := range x.Vars {
			x.Vars[k].At = 0
		}
	}
	for i := range p.Globals {
		p.Globals[i].At = 0
	}
	for i := range p.Tasks {
		p.Tasks[i].At = 0
	}
	for i := range p.Runs {
		p.Runs[i].At = 0
	}
	return p
}

func bodyless(p api.Project) api.Project {
	p = placeless(p)
	for i := range p.Pous {
		p.Pous[i].Text, p.Pous[i].Lang = "", 0
	}
	return p
}

func parsed(t *testing.T, sources ...string) api.Project {
	t.Helper()
	p, n, err := decl.Parse(sources)
	if err != nil || n != 0 {
		t.Fatalf("%q: %d %v", sources, n, err)
	}
	return p
}

func same(t *testing.T, got, want api.Project, sources ...string) {
	t.Helper()
	if !reflect.DeepEqual(got, want) {
		t.Fatalf("%q:\n got %+v\nwant %+v", sources, got, want)
	}
}

// P4.1: just what is declared; P4.4: source by source; P4.8: case.
func TestDeclared(t *testing.T) {
	for seed := range int64(1500) {
		sources, want := newMaker(seed).make()
		same(t, plain(parsed(t, sources...)), plain(want), sources...)
		all := strings.Join(sources, "\n")
		same(t, placeless(parsed(t, all)), placeless(parsed(t, sources...)), sources...)
		if !strings.Contains(all, "'") {
			a, b := parsed(t, strings.ToUpper(all)), parsed(t, all)
			for i := range b.Pous {
				b.Pous[i].Text = strings.ToUpper(b.Pous[i].Text)
			}
			same(t, plain(a), plain(b), all)
		}
	}
}

// P4.5: bodies are not looked at.
func TestBodies(t *testing.T) {
	words := strings.Fields("a 5 INT#7 'END_PROGRAM' {X} {IL} %QX0.0 := ) ] END_VAR END_TYPE TYPE PROGRAM FUNCTION CONFIGURATION END_IF IF RETAIN (*END_PROGRAM*)")
	r := rand.New(rand.NewSource(1))
	for seed := range int64(300) {
		m := newMaker(seed)
		sources, _ := m.make()
		before := parsed(t, sources...)
		var after []string
		for n, src := range sources {
			at := 0
			var b strings.Builder
			for _, p := range before.Pous {
				if p.Source != n {
					continue
				}
				b.WriteString(src[at:p.From])
				for range r.Intn(6) {
					b.WriteString(" " + words[r.Intn(len(words))])
				}
				b.WriteString("\n")
				at = p.From + len(p.Text)
			}
			b.WriteString(src[at:])
			after = append(after, b.String())
		}
		same(t, bodyless(parsed(t, after...)), bodyless(before), after...)
	}
}

// P4.6: initial values fit; P4.7: names stand once.
func TestFits(t *testing.T) {
	for seed := range int64(500) {
		sources, _ := newMaker(seed).make()
		p := parsed(t, sources...)
		check := func(l []api.Var) {
			names := map[string]int{}
			for _, v := range l {
				names[v.Name]++
				if len(v.Init) > decl.Cells(v.Type) || names[v.Name] > 1 {
					t.Fatal(v)
				}
				for _, x := range v.Init {
					if value.Fits(v.Type, x) != 0 {
						t.Fatal(v)
					}
				}
			}
		}
		check(p.Globals)
		for _, x := range p.Pous {
			check(x.Vars)
		}
	}
}

// broken is a source in which some words are left out, stand twice, or are others.
func broken(r *rand.Rand, src string) string {
	l, _ := lex.Scan(src)
	var b strings.Builder
	for range 1 + r.Intn(2) {
		if len(l) == 0 {
			return src
		}
		i, k := r.Intn(len(l)), r.Intn(len(l))
		switch r.Intn(3) {
		case 0:
			l = append(l[:i:i], l[i+1:]...)
		case 1:
			l = append(l[:i+1:i+1], l[i:]...)
		default:
			l[i] = l[k]
		}
	}
	for _, w := range l {
		b.WriteString(src[w.At:w.End] + " ")
	}
	return b.String()
}

// Every source is taken, or refused with one fault at a word's place, and nothing else beside it; what is taken keeps to P4.6 and P4.7.
func TestBroken(t *testing.T) {
	r := rand.New(rand.NewSource(2))
	refused := 0
	for seed := range int64(6000) {
		sources, _ := newMaker(seed % 700).make()
		n := r.Intn(len(sources))
		sources[n] = broken(r, sources[n])
		p, at, err := decl.Parse(sources)
		if err == nil {
			checkNames(t, p)
			continue
		}
		refused++
		var f api.Fault
		if !errors.As(err, &f) || !reflect.DeepEqual(p, api.Project{}) || at < n {
			t.Fatal(sources, p, at, err)
		}
		if err != error(f) {
			t.Fatal(err)
		}
		isPlace := f.At == len(sources[at])
		l, _ := lex.Scan(sources[at])
		for _, w := range l {
			isPlace = isPlace || w.At == f.At
		}
		if !isPlace {
			t.Fatal(sources[at], f)
		}
	}
	if refused < 1000 {
		t.Error(refused)
	}
}

func checkNames(t *testing.T, p api.Project) {
	t.Helper()
	count := func(lists ...[]string) {
		names := map[string]int{}
		for _, l := range lists {
			for _, n := range l {
				names[n]++
				if names[n] > 1 {
					t.Fatal(n, p)
				}
			}
		}
	}
	var types, pous, consts, tasks, runs []string
	for _, x := range p.Types {
		types = append(types, x.Name)
	}
	for _, x := range p.Pous {
		pous = append(pous, x.Name)
		count(varNames(x.Vars))
	}
	for _, x := range p.Consts {
		consts = append(consts, x.Name)
	}
	for _, x := range p.Tasks {
		tasks = append(tasks, x.Name)
	}
	for _, x := range p.Runs {
		runs = append(runs, x.Name)
	}
	count(types, pous)
	count(consts, varNames(p.Globals))
	count(tasks)
	count(runs)
}

func varNames(l []api.Var) []string {
	var names []string
	for _, v := range l {
		names = append(names, v.Name)
	}
	return names
}
