package sfccore

import (
	"math"

	"relay/api"
	"relay/trees"
	"relay/value"
)

// What is made here has no place, but where the document gives it one.

func (a *chart) put(s api.Stmt) { a.stmts = append(a.stmts, s) }

func set(place, e api.Expr) api.Stmt { return trees.Set(0, place, e) }

func truth(is bool) api.Expr { return trees.Truth(0, is) }

func not(e api.Expr) api.Expr { return trees.Not(0, e) }

// and is expressions joined from the left on.
func and(first api.Expr, others ...api.Expr) api.Expr {
	for _, e := range others {
		first = trees.Both(api.OpAnd, 0, first, e)
	}
	return first
}

// fire puts which transitions fire: of those that have a step in common the first one.
func (a *chart) fire() {
	leave := map[int][]int{} // of each step the transitions from it so far
	for j, t := range a.Trans {
		var row []api.Expr
		from, ahead := map[int]struct{}{}, map[int]struct{}{}
		for _, step := range a.steps(t.From) {
			row = append(row, active(step))
			from[step] = struct{}{}
		}
		for _, step := range inOrder(from) {
			for _, m := range leave[step] {
				ahead[m] = struct{}{}
			}
			leave[step] = append(leave[step], j+1)
		}
		row = append(row, trees.Changed(t.Cond, a.own))
		for _, m := range inOrder(ahead) {
			row = append(row, not(fires(m)))
		}
		a.put(trees.Set(t.At, fires(j+1), and(row[0], row[1:]...)))
	}
}

// move puts who is active then. All steps are left ahead of any that is come to, so that a step which is left and come to in one scan stays active.
func (a *chart) move() {
	for j, t := range a.Trans {
		a.put(trees.If(0, fires(j+1), sets(a.steps(t.From), false)...))
	}
	for j, t := range a.Trans {
		a.put(trees.If(0, fires(j+1), sets(a.steps(t.To), true)...))
	}
}

// sets is statements that make steps active, or end that.
func sets(steps []int, is bool) []api.Stmt {
	var l []api.Stmt
	for _, step := range steps {
		l = append(l, set(active(step), truth(is)))
	}
	return l
}

// run puts whether a target is on, and what that does.
func (a *chart) run(t target) {
	a.put(set(t.on(), truth(false)))
	for _, l := range t.links {
		a.begin(t, l)
	}
	for _, l := range t.links {
		if l.Qual == "R" {
			a.put(trees.If(0, active(l.step), t.resets()...))
		}
	}
	for _, l := range t.links {
		a.drive(t, l)
	}
	if t.isStored {
		a.turnOn(t, t.stored())
	}
	if t.isAction {
		a.put(trees.If(t.at, t.on(), trees.StmtsChanged(t.body, a.own)...))
	} else {
		a.put(trees.Set(t.at, trees.Name(0, t.name), t.on()))
	}
}

// begin puts what makes a link stay on.
func (a *chart) begin(t target, l link) {
	switch l.Qual {
	case "S":
		a.put(trees.If(0, active(l.step), set(t.stored(), truth(true))))
	case "SD":
		a.put(trees.If(0, active(l.step), set(l.latch(), truth(true))))
	case "SL":
		a.put(trees.If(0, and(active(l.step), not(wasActive(l.step))), set(l.latch(), truth(true))))
	}
}

// resets is statements that end whatever of a target stays on.
func (t target) resets() []api.Stmt {
	var l []api.Stmt
	if t.isStored {
		l = append(l, set(t.stored(), truth(false)))
	}
	for _, k := range t.latched {
		l = append(l, set(k.latch(), truth(false)))
	}
	return l
}

// turnOn puts that a target is on, if an expression is true.
func (a *chart) turnOn(t target, e api.Expr) {
	a.put(set(t.on(), trees.Both(api.OpOr, 0, t.on(), e)))
}

// drive puts what a link does in this scan for its target.
func (a *chart) drive(t target, l link) {
	x, was := active(l.step), wasActive(l.step)
	switch l.Qual {
	case "S", "R":
		// What these do stands ahead.
	case "P", "P1":
		a.turnOn(t, and(x, not(was)))
	case "P0":
		a.turnOn(t, and(not(x), was))
	case "L":
		a.put(l.delay(x))
		a.turnOn(t, and(x, not(l.elapsed())))
	case "D":
		a.put(l.delay(x))
		a.turnOn(t, l.elapsed())
	case "SD":
		a.put(l.delay(l.latch()))
		a.turnOn(t, l.elapsed())
	case "DS":
		a.put(l.delay(x))
		a.put(trees.If(0, l.elapsed(), set(t.stored(), truth(true))))
	case "SL":
		a.put(l.delay(l.latch()))
		a.turnOn(t, and(l.latch(), not(l.elapsed())))
	default:
		a.turnOn(t, x)
	}
}

// delay is a call of a link's timer.
func (l link) delay(in api.Expr) api.Stmt { return call(named("_D", l.number), in, max(0, l.Time)) }

// call is a call of a timer for a span.
func call(name string, in api.Expr, span int) api.Stmt {
	t, _ := value.Int(api.KTime, span)
	return api.Stmt{
		Op: api.StCall, Name: name,
		Exprs: []api.Expr{in, {Op: api.ExLit, Value: t}},
		Names: []string{"IN", "PT"},
	}
}

// remember puts what the next scan asks of this one.
func (a *chart) remember() {
	for i := range a.Steps {
		a.put(set(wasActive(i+1), active(i+1)))
		if _, is := a.asked[i+1]; is {
			a.put(call(named("_T", i+1), active(i+1), math.MaxInt64))
		}
	}
}
