package meaning

import (
	"relay/api"
	"relay/blocks"
	"relay/value"
)

// way is where a run goes on behind a statement.
type way int

const (
	onward    way = iota // with the next one
	outOfLoop            // behind the innermost loop
	outOfRun             // behind the run
)

// stmts does statements, one behind the other, in a run from a first cell on.
func (m *machine) stmts(l []api.Stmt, base int) way {
	for i := 0; i < len(l); i++ {
		s := &l[i]
		m.begin()
		if s.Op == api.StJump {
			if len(s.Exprs) == 0 || m.truth(s, base) {
				i = labelBehind(l, i)
			}
			continue
		}
		if w := m.do(s, base); w != onward {
			return w
		}
	}
	return onward
}

// labelBehind is where the label of a jump stands further on in its list.
func labelBehind(l []api.Stmt, jump int) int {
	for i := jump + 1; i < len(l); i++ {
		if l[i].Op == api.StLabel && l[i].Name == l[jump].Name {
			return i
		}
	}
	panic(stop(api.FaultKind))
}

// part is an expression of a statement, which must be there.
func part(s *api.Stmt, i int) *api.Expr {
	must(i < len(s.Exprs), api.FaultKind)
	return &s.Exprs[i]
}

// truth is whether a statement's condition is true.
func (m *machine) truth(s *api.Stmt, base int) bool {
	v := m.eval(part(s, 0), base)
	must(v.Kind == api.KBool, api.FaultKind)
	return v == value.Bool(true)
}

// do does a statement.
func (m *machine) do(s *api.Stmt, base int) way {
	switch s.Op {
	case api.StSet:
		m.assign(s, base)
	case api.StIf:
		if m.truth(s, base) {
			return m.stmts(s.Body, base)
		}
		return m.stmts(s.Else, base)
	case api.StCase:
		return m.stmts(chosen(s, m.eval(part(s, 0), base)), base)
	case api.StFor:
		return m.count(s, base)
	case api.StWhile:
		return m.while(s, base)
	case api.StRepeat:
		return m.repeat(s, base)
	case api.StExit:
		return outOfLoop
	case api.StReturn:
		return outOfRun
	case api.StCall:
		m.instance(s, base)
	case api.StLabel, api.StEmpty:
	default:
		panic(stop(api.FaultKind))
	}
	return onward
}

// assign does a StSet. What the right side is plays its part ahead of where the index leads.
func (m *machine) assign(s *api.Stmt, base int) {
	place := part(s, 0)
	index := m.indexOf(place, base)
	v := m.eval(part(s, 1), base)
	for _, r := range s.Ranges {
		must(lies(v, r.Lo, r.Hi), api.FaultRange)
	}
	must(s.Num <= 0 || len(v.Text) <= s.Num, api.FaultText)
	m.set(m.cellOf(place, index, base), v)
}

// chosen is the statements of a StCase for a value.
func chosen(s *api.Stmt, v api.Value) []api.Stmt {
	for i := range s.Body {
		for _, r := range s.Body[i].Ranges {
			if lies(v, r.Lo, r.Hi) {
				return s.Body[i].Body
			}
		}
	}
	return s.Else
}

// round does a round of a loop, and tells whether that was the last one, and where the run goes on then.
func (m *machine) round(s *api.Stmt, base int) (bool, way) {
	switch w := m.stmts(s.Body, base); w {
	case onward:
		return false, onward
	case outOfLoop:
		return true, onward
	default:
		return true, w
	}
}

// look begins a round's look at a loop; the first one is part of the statement.
func (m *machine) look(done int) {
	if done > 0 {
		m.begin()
	}
}

// count does a StFor.
func (m *machine) count(s *api.Stmt, base int) way {
	from, _ := value.Number(part(s, 0).Value)
	by, _ := value.Number(part(s, 1).Value)
	for k := range s.Num {
		m.look(k)
		m.set(m.number(s.Area, s.Ref, base), sound(value.Int(s.Kind, from+k*by)))
		if last, w := m.round(s, base); last {
			return w
		}
	}
	return onward
}

// while does a StWhile.
func (m *machine) while(s *api.Stmt, base int) way {
	for done := 0; ; done++ {
		m.look(done)
		if !m.truth(s, base) {
			return onward
		}
		must(done < s.Num, api.FaultLoop)
		if last, w := m.round(s, base); last {
			return w
		}
	}
}

// repeat does a StRepeat.
func (m *machine) repeat(s *api.Stmt, base int) way {
	for done := 0; ; done++ {
		m.look(done)
		must(done < s.Num, api.FaultLoop)
		if last, w := m.round(s, base); last {
			return w
		}
		if m.truth(s, base) {
			return onward
		}
	}
}

// instance does a StCall: a run of a function block, or a step of a standard one.
func (m *machine) instance(s *api.Stmt, base int) {
	first := m.number(s.Area, s.Ref, base)
	if s.Num >= 0 {
		m.within(s.Num, first)
		return
	}
	size := blocks.Size(-s.Num)
	must(first >= 0 && first <= len(m.mem)-size, api.FaultRef)
	after, fault := blocks.Step(-s.Num, m.mem[first:first+size], m.now)
	must(fault == api.FaultNone, fault)
	copy(m.mem[first:], after)
}
