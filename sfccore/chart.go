package sfccore

import (
	"slices"

	"relay/api"
	"relay/trees"
)

// place is a step's variable as conditions and bodies name it: X, it is active, or T, for how long it was.
type place struct{ step, field string }

// link is an action block with its number, and that of its step.
type link struct {
	api.Link
	number, step int
}

// isLatched tells whether a link stays on by itself: it has the hidden variable _B.
func (l link) isLatched() bool { return l.Qual == "SD" || l.Qual == "SL" }

// isTimed tells whether a link has the timer _D.
func (l link) isTimed() bool {
	switch l.Qual {
	case "L", "D", "SD", "DS", "SL":
		return true
	}
	return false
}

// isStoring tells whether what a link names stays on: that has the hidden variable _S.
func (l link) isStoring() bool { return l.Qual == "S" || l.Qual == "DS" }

// target is an action or a variable with all links that name it.
type target struct {
	number, at int
	name       string
	isAction   bool
	body       []api.Stmt
	links      []link
	latched    []link // those of them that have _B
	isStored   bool   // it has the hidden variable _S
}

// take adds a link to those that name a target.
func (t *target) take(l link) {
	t.links = append(t.links, l)
	if l.isLatched() {
		t.latched = append(t.latched, l)
	}
	t.isStored = t.isStored || l.isStoring()
}

// chart turns a chart into statements, one behind the other. All numbers are counted from 1 on.
type chart struct {
	api.Chart
	places  map[place]int // the numbers of the steps, by their variables
	links   []link
	targets []target
	asked   map[int]struct{} // the steps whose T was come to
	stmts   []api.Stmt
}

// numbered is a chart whose steps, links and targets have their numbers.
func numbered(c api.Chart) *chart {
	a := &chart{Chart: c, places: map[place]int{}, asked: map[int]struct{}{}}
	for i, s := range c.Steps {
		// Of several steps with one name the first one counts.
		if _, known := a.places[place{s.Name, "X"}]; !known {
			a.places[place{s.Name, "X"}] = i + 1
			a.places[place{s.Name, "T"}] = i + 1
		}
		for _, l := range s.Links {
			a.links = append(a.links, link{l, len(a.links) + 1, i + 1})
		}
	}
	a.aim()
	return a
}

// aim finds the targets: the actions, then whatever else links name.
func (a *chart) aim() {
	known := map[string]int{}
	add := func(t target) {
		if _, is := known[t.name]; !is {
			known[t.name] = len(a.targets)
			t.number = len(a.targets) + 1
			a.targets = append(a.targets, t)
		}
	}
	for _, x := range a.Actions {
		add(target{at: x.At, name: x.Name, isAction: true, body: x.Body})
	}
	for _, l := range a.links {
		add(target{at: l.At, name: l.Name})
		a.targets[known[l.Name]].take(l)
	}
}

// steps is the numbers of the steps that have some names.
func (a *chart) steps(names []string) []int {
	var l []int
	for _, name := range names {
		l = append(l, a.places[place{name, "X"}])
	}
	return l
}

// own is an expression of a condition or a body; a step's variable in it becomes the hidden one that it stands for.
func (a *chart) own(e api.Expr) api.Expr {
	step, is := a.places[place{e.Name, e.Field}]
	switch {
	case e.Op != api.ExField || !is:
		return e
	case e.Field == "X":
		return trees.Name(e.At, named("_X", step))
	}
	a.asked[step] = struct{}{}
	return trees.Field(e.At, named("_T", step), "ET")
}

// inOrder is the numbers of a set, rising.
func inOrder(set map[int]struct{}) []int {
	var l []int
	for n := range set {
		l = append(l, n)
	}
	slices.Sort(l)
	return l
}
