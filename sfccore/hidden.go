package sfccore

import (
	"strconv"

	"relay/api"
	"relay/trees"
	"relay/value"
)

func named(letters string, n int) string { return letters + strconv.Itoa(n) }

// hidden is a hidden variable as an expression.
func hidden(letters string, n int) api.Expr { return trees.Name(0, named(letters, n)) }

func active(step int) api.Expr    { return hidden("_X", step) }
func wasActive(step int) api.Expr { return hidden("_O", step) }
func fires(trans int) api.Expr    { return hidden("_F", trans) }
func (l link) latch() api.Expr    { return hidden("_B", l.number) }
func (l link) elapsed() api.Expr  { return trees.Field(0, named("_D", l.number), "Q") }
func (t target) on() api.Expr     { return hidden("_Q", t.number) }
func (t target) stored() api.Expr { return hidden("_S", t.number) }

// vars is the hidden variables; which timers of steps there are is known behind all statements.
func (a *chart) vars() []api.Var {
	var l []api.Var
	for i, s := range a.Steps {
		x := bit("_X", i+1, api.VarLocal)
		if s.Initial {
			x.Init = []api.Value{value.Bool(true)}
		}
		l = append(l, x, bit("_O", i+1, api.VarLocal))
	}
	for j := range a.Trans {
		l = append(l, bit("_F", j+1, api.VarTemp))
	}
	for _, k := range a.links {
		if k.isLatched() {
			l = append(l, bit("_B", k.number, api.VarLocal))
		}
		if k.isTimed() {
			l = append(l, timer("_D", k.number))
		}
	}
	for _, t := range a.targets {
		l = append(l, bit("_Q", t.number, api.VarTemp))
		if t.isStored {
			l = append(l, bit("_S", t.number, api.VarLocal))
		}
	}
	for _, step := range inOrder(a.asked) {
		l = append(l, timer("_T", step))
	}
	return l
}

// bit is a hidden variable of BOOL.
func bit(letters string, n, class int) api.Var {
	v := trees.Var(class, api.KBool)
	v.Name = named(letters, n)
	return v
}

// timer is a hidden instance of TON.
func timer(letters string, n int) api.Var {
	return api.Var{Name: named(letters, n), Class: api.VarLocal, Type: api.Type{Block: "TON"}}
}
