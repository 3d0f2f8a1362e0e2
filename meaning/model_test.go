package meaning_test

import (
	"relay/api"
	"relay/blocks"
	"relay/stdlib"
	"relay/value"
)

// model does what chapter 16 says in another way: by a list of things that are still to be done, the next one last; each thing may put further ones. Values stand on a stack.
type model struct {
	codes []api.Code
	cells []api.Cell
	mem   []api.Value
	now   int
	most  int
	rules int
	fault int
	todo  []func()
	stack []api.Value
	bases []int // of the runs within one another
	marks []int // how long the list was when each run began
	loops []int // likewise of the loops around, with those of other runs
}

func (m *model) put(l ...func()) {
	for i := len(l) - 1; i >= 0; i-- {
		m.todo = append(m.todo, l[i])
	}
}

func (m *model) push(v api.Value, fault int) {
	if fault != 0 {
		m.fault = fault
	}
	m.stack = append(m.stack, v)
}

func (m *model) pop() api.Value {
	v := m.stack[len(m.stack)-1]
	m.stack = m.stack[:len(m.stack)-1]
	return v
}

func (m *model) goOn() {
	for len(m.todo) > 0 && m.fault == 0 {
		next := m.todo[len(m.todo)-1]
		m.todo = m.todo[:len(m.todo)-1]
		next()
	}
}

// rule is a thing that is a rule.
func (m *model) rule(do func()) func() {
	return func() {
		if m.rules+1 > m.most {
			m.fault = api.FaultSteps
			return
		}
		m.rules++
		do()
	}
}

func (m *model) base() int { return m.bases[len(m.bases)-1] }

func (m *model) cell(area, n int) int {
	switch area {
	case api.AreaThis:
		return m.base() + n
	case api.AreaRef:
		return int(m.mem[m.base()+n].Bits)
	}
	return n
}

// far is how far behind an array's first cell an element lies; the index is on the stack.
func (m *model) far(place api.Expr) int {
	if place.Op != api.ExIndex {
		return 0
	}
	n, is := value.Number(m.pop())
	if !is || n < place.From || n > place.To {
		m.fault = api.FaultIndex
		return 0
	}
	return n - place.From
}

// index puts the evaluation of a place's index.
func (m *model) index(place api.Expr) []func() {
	if place.Op != api.ExIndex {
		return nil
	}
	return []func(){m.eval(place.Kids[0])}
}

func (m *model) all(l []api.Expr) []func() {
	var out []func()
	for _, e := range l {
		out = append(out, m.eval(e))
	}
	return out
}

func (m *model) eval(e api.Expr) func() {
	if e.Op == api.ExParam {
		return m.eval(e.Kids[0])
	}
	return m.rule(func() {
		switch e.Op {
		case api.ExLit:
			m.push(e.Value, 0)
		case api.ExName, api.ExField, api.ExIndex:
			m.put(append(m.index(e), func() {
				if far := m.far(e); m.fault == 0 {
					m.push(m.mem[m.cell(e.Area, e.Ref)+far], 0)
				}
			})...)
		case api.ExRef:
			place := e.Kids[0]
			m.put(append(m.index(place), func() {
				far := m.far(place)
				m.push(api.Value{Kind: api.KRef, Bits: uint64(m.cell(place.Area, place.Ref) + far)}, 0)
			})...)
		case api.ExConv:
			m.put(m.eval(e.Kids[0]), func() { m.push(value.Convert(e.Kind, m.pop())) })
		case api.OpNeg, api.OpNot:
			m.put(m.eval(e.Kids[0]), func() { m.push(value.Turn(e.Op, m.pop())) })
		case api.ExCall:
			m.put(append(m.all(e.Kids), func() { m.call(e) })...)
		default:
			m.put(m.eval(e.Kids[0]), m.eval(e.Kids[1]), func() {
				b := m.pop()
				m.push(value.Reckon(e.Op, m.pop(), b))
			})
		}
	})
}

// call does a call whose arguments are on the stack.
func (m *model) call(e api.Expr) {
	args := append([]api.Value{}, m.stack[len(m.stack)-len(e.Kids):]...)
	m.stack = m.stack[:len(m.stack)-len(e.Kids)]
	if e.Area == 0 {
		m.push(stdlib.Call(e.Ref, args))
		return
	}
	for i, p := range e.Kids {
		n, _ := value.Number(args[i])
		if p.Area == 1 && (n < p.From || n > p.To) {
			m.fault = api.FaultRange
			return
		}
		if p.Area == 2 && len(args[i].Text) > p.To {
			m.fault = api.FaultText
			return
		}
		m.mem[e.From+p.Ref] = args[i]
	}
	m.put(func() { m.enter(e.Ref, e.From) }, func() { m.push(m.mem[e.From], 0) })
}

// enter puts a run.
func (m *model) enter(fn, base int) {
	if len(m.bases) == api.MaxCalls {
		m.fault = api.FaultSteps
		return
	}
	m.bases = append(m.bases, base)
	m.marks = append(m.marks, len(m.todo))
	m.put(m.leave)
	m.list(m.codes[fn].Body)
}

// leave ends a run, with all that was still to be done in it.
func (m *model) leave() {
	last := len(m.bases) - 1
	m.todo = m.todo[:m.marks[last]]
	m.bases, m.marks = m.bases[:last], m.marks[:last]
	for len(m.loops) > 0 && m.loops[len(m.loops)-1] >= len(m.todo) {
		m.loops = m.loops[:len(m.loops)-1]
	}
}

// list puts statements.
func (m *model) list(l []api.Stmt) {
	if len(l) == 0 {
		return
	}
	s, rest := l[0], l[1:]
	if s.Op != api.StJump {
		m.put(m.stmt(s), func() { m.list(rest) })
		return
	}
	m.put(m.rule(func() {
		jump := func() {
			for i, x := range rest {
				if x.Op == api.StLabel && x.Name == s.Name {
					m.list(rest[i+1:])
					return
				}
			}
		}
		if len(s.Exprs) == 0 {
			jump()
			return
		}
		m.put(m.eval(s.Exprs[0]), func() {
			if m.pop().Bits == 1 {
				jump()
			} else {
				m.list(rest)
			}
		})
	}))
}

// loop notes that a loop begins here, and puts its end.
func (m *model) loop(round func()) {
	m.loops = append(m.loops, len(m.todo))
	m.put(round, m.out)
}

// out ends the innermost loop, with all that was still to be done in it.
func (m *model) out() {
	last := len(m.loops) - 1
	m.todo = m.todo[:m.loops[last]]
	m.loops = m.loops[:last]
}

func (m *model) stmt(s api.Stmt) func() {
	return m.rule(func() {
		switch s.Op {
		case api.StSet:
			m.set(s)
		case api.StIf:
			m.put(m.eval(s.Exprs[0]), func() {
				if m.pop() == value.Bool(true) {
					m.list(s.Body)
				} else {
					m.list(s.Else)
				}
			})
		case api.StCase:
			m.put(m.eval(s.Exprs[0]), func() { m.choose(s) })
		case api.StFor, api.StWhile, api.StRepeat:
			m.loop(func() { m.round(s, 0) })
		case api.StExit:
			m.out()
		case api.StReturn:
			m.leave()
		case api.StCall:
			m.instance(s)
		}
	})
}

func (m *model) set(s api.Stmt) {
	place := s.Exprs[0]
	m.put(append(m.index(place), m.eval(s.Exprs[1]), func() {
		v := m.pop()
		n, is := value.Number(v)
		if len(s.Ranges) > 0 && (!is || n < s.Ranges[0].Lo || n > s.Ranges[0].Hi) {
			m.fault = api.FaultRange
			return
		}
		if s.Num > 0 && len(v.Text) > s.Num {
			m.fault = api.FaultText
			return
		}
		if far := m.far(place); m.fault == 0 {
			m.mem[m.cell(place.Area, place.Ref)+far] = v
		}
	})...)
}

func (m *model) choose(s api.Stmt) {
	n, is := value.Number(m.pop())
	for _, arm := range s.Body {
		for _, r := range arm.Ranges {
			if is && n >= r.Lo && n <= r.Hi {
				m.list(arm.Body)
				return
			}
		}
	}
	m.list(s.Else)
}

// round puts a round of a loop, behind which so many were done.
func (m *model) round(s api.Stmt, done int) {
	look := func() {}
	if done > 0 {
		look = m.rule(func() {})
	}
	body, next := func() { m.list(s.Body) }, func() { m.round(s, done+1) }
	bounded := func() {
		if done >= s.Num {
			m.fault = api.FaultLoop
		}
	}
	switch s.Op {
	case api.StFor:
		if done >= s.Num {
			return
		}
		from, _ := value.Number(s.Exprs[0].Value)
		by, _ := value.Number(s.Exprs[1].Value)
		m.put(look, func() {
			v, fault := value.Int(s.Kind, from+done*by)
			m.mem[m.cell(s.Area, s.Ref)], m.fault = v, fault
		}, body, next)
	case api.StWhile:
		m.put(look, m.eval(s.Exprs[0]), func() {
			if m.pop() == value.Bool(true) {
				m.put(bounded, body, next)
			}
		})
	case api.StRepeat:
		m.put(look, bounded, body, m.eval(s.Exprs[0]), func() {
			if m.pop() == value.Bool(false) {
				m.put(next)
			}
		})
	}
}

func (m *model) instance(s api.Stmt) {
	at := m.cell(s.Area, s.Ref)
	if s.Num >= 0 {
		m.enter(s.Num, at)
		return
	}
	after, fault := blocks.Step(-s.Num, m.mem[at:at+blocks.Size(-s.Num)], m.now)
	m.fault = fault
	copy(m.mem[at:], after)
}

// modelRun is what Run answers of what may be.
func modelRun(codes []api.Code, fn, base, now int, cells []api.Cell, mem []api.Value, most int) ([]api.Value, int, int) {
	m := &model{codes: codes, cells: cells, mem: append([]api.Value{}, mem...), now: now, most: most}
	m.enter(fn, base)
	m.goOn()
	if m.fault != 0 {
		return nil, m.rules, m.fault
	}
	return m.mem, m.rules, 0
}

// modelValue is what Value answers likewise.
func modelValue(codes []api.Code, e api.Expr, base, now int, cells []api.Cell, mem []api.Value, most int) (api.Value, int, int) {
	// There is a base, but no run; of projects by chance no calls come near to how deep they may be.
	m := &model{codes: codes, cells: cells, mem: append([]api.Value{}, mem...), now: now, most: most}
	m.bases, m.marks = []int{base}, []int{0}
	m.put(m.eval(e))
	m.goOn()
	if m.fault != 0 {
		return api.Value{}, m.rules, m.fault
	}
	return m.pop(), m.rules, 0
}
