package sfccore_test

import (
	"fmt"
	"math/rand"
	"strconv"
	"strings"
	"testing"

	"relay/api"
	"relay/blocks"
	"relay/sfccore"
	"relay/value"
)

// machine runs a chart's statements, scan by scan.
type machine struct {
	t      *testing.T
	stmts  []api.Stmt
	vars   []api.Var
	cells  map[string]api.Value
	timers map[string][]api.Value
	now    int
}

func newMachine(t *testing.T, c api.Chart) *machine {
	t.Helper()
	s, v, err := sfccore.Chart(c)
	if err != nil {
		t.Fatal(err)
	}
	m := &machine{t: t, stmts: s, vars: v, cells: map[string]api.Value{}, timers: map[string][]api.Value{}}
	for _, x := range v {
		m.start(x)
	}
	return m
}

// start gives a variable its first value.
func (m *machine) start(v api.Var) {
	switch kind, is := blocks.Kind(v.Type.Block); {
	case is:
		m.timers[v.Name] = blocks.Start(kind)
	case len(v.Init) > 0:
		m.cells[v.Name] = v.Init[0]
	default:
		m.cells[v.Name] = value.Zero(v.Type.Kind)
	}
}

// scan runs all statements once, at a time.
func (m *machine) scan(now int) {
	m.now = now
	for _, v := range m.vars {
		if v.Class == api.VarTemp {
			m.start(v)
		}
	}
	m.do(m.stmts)
}

func (m *machine) do(l []api.Stmt) {
	for _, s := range l {
		switch s.Op {
		case api.StSet:
			m.cells[s.Exprs[0].Name] = m.eval(s.Exprs[1])
		case api.StIf:
			if m.eval(s.Exprs[0]) == value.Bool(true) {
				m.do(s.Body)
			}
		case api.StCall:
			cells := m.timers[s.Name]
			cells[0], cells[1] = m.eval(s.Exprs[0]), m.eval(s.Exprs[1])
			after, fault := blocks.Step(api.FbTon, cells, m.now)
			if fault != 0 {
				m.t.Fatal(s, fault)
			}
			m.timers[s.Name] = after
		default:
			m.t.Fatal(s)
		}
	}
}

func (m *machine) eval(e api.Expr) api.Value {
	var v api.Value
	fault, known := 0, true
	switch e.Op {
	case api.ExLit:
		v = e.Value
		if v.Kind == api.KNone {
			v.Kind = api.KDint
		}
	case api.ExName:
		v, known = m.cells[e.Name]
	case api.ExField:
		v = m.timers[e.Name][map[string]int{"Q": 2, "ET": 3}[e.Field]]
	case api.OpNot:
		v, fault = value.Turn(e.Op, m.eval(e.Kids[0]))
	default:
		v, fault = value.Reckon(e.Op, m.eval(e.Kids[0]), m.eval(e.Kids[1]))
	}
	if fault != 0 || !known {
		m.t.Fatal(e, fault)
	}
	return v
}

func (m *machine) set(name string, is bool) { m.cells[name] = value.Bool(is) }

func (m *machine) is(name string) bool { return m.cells[name] == value.Bool(true) }

// active is which steps are active.
func (m *machine) active(steps int) string {
	s := ""
	for i := range steps {
		s += strconv.Itoa(int(m.cells["_X"+strconv.Itoa(i+1)].Bits))
	}
	return s
}

// tokens is a chart without actions whose transitions hang on variables C0, C1 and so on, each on its own.
func tokens(r *rand.Rand, side int) (string, int, int) {
	steps, trans := 1+r.Intn(6), r.Intn(8)
	first := r.Intn(steps)
	src := ""
	for i := range steps {
		src += map[bool]string{true: "INITIAL_STEP s", false: "STEP s"}[i == first] + strconv.Itoa(i) + ": END_STEP "
	}
	some := func() string {
		var l []string
		for _, n := range r.Perm(steps)[:1+r.Intn(min(steps, side))] {
			l = append(l, "s"+strconv.Itoa(n))
		}
		return "(" + strings.Join(l, ", ") + ")"
	}
	for j := range trans {
		src += "TRANSITION FROM " + some() + " TO " + some() + " := c" + strconv.Itoa(j) + "; END_TRANSITION "
	}
	return src, steps, trans
}

// steer gives the variables of transitions values by chance, and tells whether one is TRUE.
func (m *machine) steer(r *rand.Rand, trans, most int) bool {
	some := false
	for j := range trans {
		is := r.Intn(most) > 0
		m.set("C"+strconv.Itoa(j), is)
		some = some || is
	}
	return some
}

// P13.2: without several steps on a side just one step is active behind each scan.
func TestOneToken(t *testing.T) {
	r := rand.New(rand.NewSource(1))
	moved := 0
	for range 2000 {
		src, steps, trans := tokens(r, 1)
		m := newMachine(t, parsed(t, src))
		before := m.active(steps)
		for now := range 12 {
			m.steer(r, trans, 2)
			m.scan(now)
			if got := m.active(steps); strings.Count(got, "1") != 1 {
				t.Fatalf("%q: %s", src, got)
			}
		}
		if m.active(steps) != before {
			moved++
		}
	}
	if moved < 300 {
		t.Error(moved)
	}
}

// P13.3: while no condition is TRUE the active steps stay.
func TestNothingFires(t *testing.T) {
	r := rand.New(rand.NewSource(2))
	for range 2000 {
		src, steps, trans := tokens(r, 3)
		m := newMachine(t, parsed(t, src))
		for now := range 12 {
			before := m.active(steps)
			some := m.steer(r, trans, 1+r.Intn(3))
			m.scan(now)
			if got := m.active(steps); !some && got != before {
				t.Fatalf("%q: %s, not %s", src, got, before)
			}
		}
	}
}

// Steps as tokens that are moved by hand: in their order transitions fire whose steps are all active, unless one ahead takes one of them along.
func TestMoves(t *testing.T) {
	r := rand.New(rand.NewSource(3))
	several := 0
	for range 3000 {
		src, steps, trans := tokens(r, 3)
		c := parsed(t, src)
		m := newMachine(t, c)
		held := map[string]bool{}
		for _, s := range c.Steps {
			held[s.Name] = s.Initial
		}
		for now := range 12 {
			m.steer(r, trans, 3)
			taken, given := map[string]bool{}, map[string]bool{}
			for j, x := range c.Trans {
				does := m.is("C" + strconv.Itoa(j))
				for _, s := range x.From {
					does = does && held[s] && !taken[s]
				}
				for _, s := range x.From {
					taken[s] = taken[s] || does
				}
				for _, s := range x.To {
					given[s] = given[s] || does
				}
			}
			want := ""
			for _, s := range c.Steps {
				held[s.Name] = held[s.Name] && !taken[s.Name] || given[s.Name]
				want += map[bool]string{true: "1", false: "0"}[held[s.Name]]
			}
			m.scan(now)
			if got := m.active(steps); got != want {
				t.Fatalf("%q: %s, not %s", src, got, want)
			}
			if strings.Count(want, "1") > 1 {
				several++
			}
		}
	}
	if several < 3000 {
		t.Error(several)
	}
}

// history is what a scan has to do with a step: when it was, whether the step is active, and whether the resetting one is.
type history struct {
	now          int
	active, ends bool
}

// want is whether a target with one link to a step, and perhaps one of R to another, is on behind all these scans; it looks back from the last one.
func want(qual string, span int, resets bool, h []history) bool {
	last := len(h) - 1
	active := func(i int) bool { return i >= 0 && h[i].active }
	// Since when has the step been active, and since when what began behind the last reset?
	rise, latched := last, -1
	for rise > 0 && active(rise-1) {
		rise--
	}
	for i := last; i >= 0 && !(resets && h[i].ends); i-- {
		if active(i) && (qual != "SL" || !active(i-1)) {
			latched = i
		}
	}
	delayed := false // some scan behind the last reset found the step active for the span
	for i := last; i >= 0 && !(resets && h[i].ends); i-- {
		from := i
		for from > 0 && active(from-1) {
			from--
		}
		delayed = delayed || active(i) && h[i].now-h[from].now >= span
	}
	switch qual {
	case "N":
		return active(last)
	case "S":
		return latched >= 0
	case "P", "P1":
		return active(last) && !active(last-1)
	case "P0":
		return !active(last) && active(last-1)
	case "L":
		return active(last) && h[last].now-h[rise].now < span
	case "D":
		return active(last) && h[last].now-h[rise].now >= span
	case "SD":
		return latched >= 0 && h[last].now-h[latched].now >= span
	case "DS":
		return delayed
	case "SL":
		return latched >= 0 && h[last].now-h[latched].now < span
	}
	return false
}

// What each qualifier means over scans, told by looking back.
func TestQualifiersRun(t *testing.T) {
	r := rand.New(rand.NewSource(4))
	for _, q := range qualifiers {
		qual, _, timed := strings.Cut(q, ",")
		on := map[bool]int{}
		for round := range 400 {
			span, resets := 1+r.Intn(6), round%2 == 0
			link, reset := "v("+qual, ""
			if timed {
				link += ", T#" + strconv.Itoa(span) + "ns"
			}
			if resets {
				reset = "v(R);"
			}
			src := "STEP b: " + link + "); END_STEP INITIAL_STEP a: END_STEP STEP c: " + reset + " END_STEP " +
				"TRANSITION FROM a TO b := ab; END_TRANSITION TRANSITION FROM b TO a := ba; END_TRANSITION TRANSITION FROM a TO c := ac; END_TRANSITION TRANSITION FROM c TO b := cb; END_TRANSITION"
			m := newMachine(t, parsed(t, src))
			var h []history
			now := 0
			for range 20 {
				now += r.Intn(3)
				for _, name := range strings.Fields("AB BA AC CB") {
					m.set(name, r.Intn(3) == 0)
				}
				m.scan(now)
				h = append(h, history{now, m.is("_X1"), m.is("_X3")})
				is := want(qual, span, resets, h)
				on[is]++
				if m.is("V") != is {
					t.Fatalf("%q: %v, not %v, behind %+v", src, m.is("V"), is, h)
				}
			}
		}
		if on[true] < 300 && qual != "R" || on[false] < 300 {
			t.Error(qual, on)
		}
	}
}

// The document's eighth example: the first step's transition fires at the first scan, and the next step's actions run in that one.
func TestFirstScan(t *testing.T) {
	m := newMachine(t, parsed(t, "INITIAL_STEP a: x(N); END_STEP STEP b: y(N); z(P); END_STEP TRANSITION FROM a TO b := TRUE; END_TRANSITION ACTION y: n := n + 1; END_ACTION ACTION x: m := m + 1; END_ACTION ACTION z: k := k + 1; END_ACTION"))
	for _, name := range []string{"N", "M", "K"} {
		m.cells[name] = value.Zero(api.KDint)
	}
	for now := range 3 {
		m.scan(now)
		if got := fmt.Sprint(m.active(2), m.cells["N"].Bits, m.cells["M"].Bits, m.cells["K"].Bits); got != fmt.Sprint("01", now+1, 0, 1) {
			t.Error(got)
		}
	}
}

// s.T is for how long a step was active, behind the last scan; 0 ahead of that.
func TestStepsTime(t *testing.T) {
	m := newMachine(t, parsed(t, "INITIAL_STEP a: v(N); END_STEP STEP b: END_STEP TRANSITION FROM a TO b := a.t >= T#10ns; END_TRANSITION TRANSITION FROM b TO a := back; END_TRANSITION ACTION v: n := a.t; END_ACTION"))
	m.cells["N"] = value.Zero(api.KTime)
	m.set("BACK", false)
	for i, now := range []int{5, 9, 14, 15, 16, 30} {
		m.scan(now)
		want := []string{"10 0", "10 0", "10 4", "10 9", "01 9", "01 9"}[i]
		if got := m.active(2) + " " + strconv.Itoa(int(m.cells["N"].Bits)); got != want {
			t.Error(now, got, want)
		}
	}
	m.set("BACK", true)
	m.scan(40)
	m.scan(43)
	m.scan(44)
	if m.active(2) != "10" || m.cells["N"].Bits != 3 {
		t.Error(m.cells)
	}
}
