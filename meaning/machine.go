package meaning

import (
	"slices"
	"strconv"

	"relay/api"
	"relay/value"
)

// stop is the fault that stops a run. It is told by a panic, as it may be met deep within runs.
type stop int

// Error is words that nobody leans on.
func (s stop) Error() string { return "relay: fault " + strconv.Itoa(int(s)) }

// must stops the run with a fault, if what must be is not.
func must(is bool, fault int) {
	if !is {
		panic(stop(fault))
	}
}

// caught is the fault that stopped a run, of what was recovered. Any other panic goes on.
func caught(gave any) int {
	switch x := gave.(type) {
	case nil:
		return api.FaultNone
	case stop:
		return int(x)
	}
	panic(gave)
}

// machine is cells over which codes run.
type machine struct {
	codes []api.Code
	cells []api.Cell
	mem   []api.Value
	now   int
	most  int // how many rules there may be
	rules int // how many have begun
	deep  int // how many runs lie within one another
}

func newMachine(codes []api.Code, now int, cells []api.Cell, mem []api.Value, most int) *machine {
	return &machine{codes: codes, cells: cells, mem: slices.Clone(mem), now: now, most: most}
}

// admit refuses what no run can begin with.
func (m *machine) admit(mem []api.Value, base int) {
	must(len(mem) == len(m.cells), api.FaultKind)
	for i, v := range mem {
		must(m.takes(i, v), api.FaultKind)
	}
	must(m.now >= 0 && m.now <= api.MaxNow, api.FaultKind)
	must(base >= 0 && base <= len(m.cells), api.FaultRef)
	must(m.most >= 0, api.FaultSteps)
}

// takes tells whether a cell can have a value.
func (m *machine) takes(cell int, v api.Value) bool {
	return v.Kind == m.cells[cell].Kind && (v.Kind == api.KRef || value.May(v))
}

// begin counts a further rule.
func (m *machine) begin() {
	must(m.rules < m.most, api.FaultSteps)
	m.rules++
}

// within does a run within the others, if there are not too many, from a cell on; a code without cells may begin behind the last one.
func (m *machine) within(fn, base int) {
	must(fn >= 0 && fn < len(m.codes), api.FaultKind)
	must(m.deep < api.MaxCalls, api.FaultSteps)
	must(m.isCell(base) || base == len(m.mem) && m.codes[fn].Cells == 0, api.FaultRef)
	m.run(fn, base)
}

// run does a code from a first cell on.
func (m *machine) run(fn, base int) {
	m.deep++
	m.stmts(m.codes[fn].Body, base)
	m.deep--
}

// number is a cell's number, in a run from a first cell on. There need be no such cell.
func (m *machine) number(area, n, base int) int {
	switch area {
	case api.AreaThis:
		return base + n
	case api.AreaGlobal:
		return n
	}
	must(area == api.AreaRef, api.FaultKind)
	v := m.get(base + n)
	must(v.Kind == api.KRef, api.FaultRef)
	return int(v.Bits)
}

func (m *machine) isCell(number int) bool { return number >= 0 && number < len(m.mem) }

// get is what a cell has.
func (m *machine) get(cell int) api.Value {
	must(m.isCell(cell), api.FaultRef)
	return m.mem[cell]
}

// set gives a cell a value.
func (m *machine) set(cell int, v api.Value) {
	must(m.isCell(cell), api.FaultRef)
	must(m.takes(cell, v), api.FaultKind)
	m.mem[cell] = v
}

// lies tells whether a value has a number from low to high.
func lies(v api.Value, low, high int) bool {
	n, is := value.Number(v)
	return is && n >= low && n <= high
}
