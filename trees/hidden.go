package trees

import (
	"strconv"

	"relay/api"
)

// Hidden is a body's hidden variables, in the order in which they come to be. Their names begin with _ , as no name of a source does.
type Hidden struct{ vars []api.Var }

// Vars is the hidden variables that there are so far. They are the list's own.
func (h *Hidden) Vars() []api.Var { return h.vars }

// Counter is a function that makes a further variable at each call, as its argument is, and tells its name: the letters, and 1, 2, .. behind them.
func (h *Hidden) Counter(letters string) func(api.Var) string {
	count := 0
	return func(v api.Var) string {
		count++
		v.Name = letters + strconv.Itoa(count)
		h.vars = append(h.vars, v)
		return v.Name
	}
}

// Once is a function that tells a name, and makes its variable, as v is, when it is first asked.
func (h *Hidden) Once(name string, v api.Var) func() string {
	there := false
	return func() string {
		if !there {
			there = true
			v.Name = name
			h.vars = append(h.vars, v)
		}
		return name
	}
}

// Var is a variable of a class and a kind; a counter names it.
func Var(class int, kind api.Kind) api.Var {
	return api.Var{Class: class, Type: api.Type{Kind: kind}}
}
