package samples

import (
	"slices"
	"strconv"

	"relay/api"
	"relay/value"
)

// WithJumps is a body with jumps to labels further on among its statements, in inner lists too. Sources in ST have none; other languages do.
func WithJumps(pick Pick, body []api.Stmt) []api.Stmt {
	return jumper{pick, conditions(body)}.list(body)
}

// conditions is what jumps may hang on: TRUE, FALSE, and conditions of a body's own statements.
func conditions(l []api.Stmt) []api.Expr {
	found := []api.Expr{{Op: api.ExLit, Value: value.Bool(true)}, {Op: api.ExLit, Value: value.Bool(false)}}
	for _, s := range l {
		if s.Op == api.StIf || s.Op == api.StWhile || s.Op == api.StRepeat {
			found = append(found, s.Exprs...)
		}
		found = append(append(found, conditions(s.Body)...), conditions(s.Else)...)
	}
	return found
}

// jumper puts jumps into lists.
type jumper struct {
	pick Pick
	when []api.Expr
}

func (j jumper) list(l []api.Stmt) []api.Stmt {
	l = j.inner(l)
	for k := range j.pick(4) {
		name := "X" + strconv.Itoa(k)
		to := j.pick(len(l) + 1)
		l = slices.Insert(l, to, api.Stmt{Op: api.StLabel, Name: name})
		for range j.pick(3) {
			l = slices.Insert(l, j.pick(to+1), j.jump(name))
			to++
		}
	}
	return l
}

// inner is a list whose statements have jumps in their lists. The arms of a choice stay as many.
func (j jumper) inner(l []api.Stmt) []api.Stmt {
	l = slices.Clone(l)
	for i := range l {
		if l[i].Op == api.StCase {
			l[i].Body = j.inner(l[i].Body)
		} else {
			l[i].Body = j.list(l[i].Body)
		}
		l[i].Else = j.list(l[i].Else)
	}
	return l
}

func (j jumper) jump(name string) api.Stmt {
	s := api.Stmt{Op: api.StJump, Name: name}
	if j.pick(4) > 0 {
		s.Exprs = []api.Expr{j.when[j.pick(len(j.when))]}
	}
	return s
}
