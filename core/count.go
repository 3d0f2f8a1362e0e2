package core

import (
	"relay/api"
	"relay/value"
	"relay/words"
)

// count is a StFor: how many rounds there are is known ahead.
func (c *checker) count(s *api.Stmt) api.Stmt {
	t := c.meant(s.Name, s.At)
	words.Must(t.isSimple() && isInteger(t.of.Kind), s.At, api.ErrMust)
	words.Must(c.mayAssign(s.Name, t) && t.class != api.VarInOut, s.At, api.ErrAssign)
	words.Must(len(s.Exprs) == 2 || len(s.Exprs) == 3, s.At, api.ErrPlace)
	w := c.wayOf(s, t.of)
	out := api.Stmt{
		Op: s.Op, At: s.At, Name: s.Name, Num: w.rounds(), Exprs: w.literals(s, t.of.Kind),
		Kind: t.of.Kind, Area: t.area, Ref: t.ref,
	}
	words.Must(out.Num <= api.MaxTimes, s.At, api.ErrFixed)
	c.fors = append(c.fors, s.Name)
	out.Body = c.round(s.Body)
	c.fors = c.fors[:len(c.fors)-1]
	return out
}

// way is how a StFor goes: from a number to a number, by so many.
type way struct{ from, to, by int }

// wayOf is the way of a StFor with a variable of a type.
func (c *checker) wayOf(s *api.Stmt, t api.Type) way {
	parts := [3]number{2: {size: 1}}
	for i := range s.Exprs {
		parts[i] = c.fixed(&s.Exprs[i], t.Kind)
	}
	var l [3]int
	for i, n := range parts {
		whole, is := n.int()
		words.Must(is, s.At, api.ErrFixed)
		l[i] = whole
	}
	w := way{l[0], l[1], l[2]}
	words.Must(isWithin(t, w.from) && isWithin(t, w.to) && w.by != 0, s.At, api.ErrFixed)
	// The way is longer than an int, if its end lies on the other side of its beginning than its sign tells.
	words.Must((w.to-w.from < 0) == (w.to < w.from), s.At, api.ErrFixed)
	return w
}

// isWithin tells whether a variable of a type may have a number.
func isWithin(t api.Type, n int) bool {
	return has(t.Kind, n) && (!t.Sub || n >= t.Lo && n <= t.Hi)
}

// fixed is the number of a part of a StFor, which must stand there, for a variable of a kind.
func (c *checker) fixed(e *api.Expr, k api.Kind) number {
	if n, is := freeOf(e); is {
		return n
	}
	var v api.Value
	switch e.Op {
	case api.ExLit:
		v = e.Value
	case api.ExName:
		// What means nothing, or a variable, has no value ahead of a run.
		t, _ := c.lookUp(e.Name)
		v = t.value
	}
	words.Must(v.Kind == k, e.At, api.ErrFixed)
	return numberOf(v)
}

// rounds is how often the variable gets a number; more than MaxTimes, if it is more often.
func (w way) rounds() int {
	if w.to != w.from && (w.to < w.from) != (w.by < 0) {
		return 0
	}
	rounds := size(w.to-w.from)/size(w.by) + 1
	return int(min(rounds, api.MaxTimes+1))
}

// size is a number without its sign.
func size(n int) uint64 {
	if n < 0 {
		return -uint64(n)
	}
	return uint64(n)
}

// literals is where a way begins and by how many it goes, for a variable of a kind; one that counts down may have no kind for that.
func (w way) literals(s *api.Stmt, k api.Kind) []api.Expr {
	from, _ := value.Int(k, w.from)
	by, fault := value.Int(k, w.by)
	if fault != api.FaultNone {
		by, _ = value.Int(api.KLint, w.by)
	}
	at := 0
	if len(s.Exprs) == 3 {
		at = s.Exprs[2].At
	}
	return []api.Expr{literal(s.Exprs[0].At, from), literal(at, by)}
}
