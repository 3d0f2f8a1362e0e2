package decl_test

import (
	"math/rand"
	"strconv"
	"strings"

	"relay/api"
	"relay/value"
)

// maker writes sources that have no fault, and beside them what they declare.
type maker struct {
	r       *rand.Rand
	b       strings.Builder
	last    int // the place behind the last word
	source  int
	count   int
	project api.Project
	sources []string
}

func newMaker(seed int64) *maker { return &maker{r: rand.New(rand.NewSource(seed))} }

func (m *maker) often(n int) bool { return m.r.Intn(n) > 0 }

// put writes a word in some letters, and blanks behind it; it is at the place that is told.
func (m *maker) put(s string) int {
	if m.often(2) {
		s = strings.ToLower(s)
	}
	return m.putText(s)
}

func (m *maker) putText(s string) int {
	at := m.b.Len()
	m.b.WriteString(s)
	m.last = at + len(s)
	blanks := []string{" ", "\n", "\t", " (* END_VAR *) ", " // TYPE\n", "  "}
	m.b.WriteString(blanks[m.r.Intn(len(blanks))])
	return at
}

func (m *maker) puts(words ...string) {
	for _, w := range words {
		m.put(w)
	}
}

// fresh is a name that no other thing has.
func (m *maker) fresh(ahead string) string {
	m.count++
	return ahead + strconv.Itoa(m.count)
}

// integers is kinds with the least and the greatest numbers for subranges.
var integers = []struct {
	kind   api.Kind
	lo, hi int
}{
	{api.KSint, -128, 127}, {api.KInt, -32768, 32767}, {api.KDint, -1 << 31, 1<<31 - 1}, {api.KLint, -1 << 63, 1<<63 - 1},
	{api.KUsint, 0, 255}, {api.KUint, 0, 65535}, {api.KUdint, 0, 1<<32 - 1}, {api.KUlint, 0, 1<<63 - 1},
}

func (m *maker) number(n int) {
	if n < 0 {
		m.put("-")
		m.put(strconv.FormatUint(-uint64(n), 10))
		return
	}
	m.put(strconv.Itoa(n))
}

// simple writes a type of one element.
func (m *maker) simple() api.Type {
	switch m.r.Intn(5) {
	case 0:
		x := integers[m.r.Intn(len(integers))]
		lo, hi := x.lo, x.hi
		if m.often(2) {
			lo, hi = max(lo, -m.r.Intn(100)), m.r.Intn(100)
		}
		m.puts(value.Word(x.kind), "(")
		m.number(lo)
		m.put("..")
		m.number(hi)
		m.put(")")
		return api.Type{Kind: x.kind, Sub: true, Lo: lo, Hi: hi}
	case 1:
		n := 1 + m.r.Intn(api.MaxText)
		m.puts("STRING", "[", strconv.Itoa(n), "]")
		return api.Type{Kind: api.KString, Max: n}
	case 2:
		for _, x := range m.project.Types {
			if m.often(2) && !x.Type.Array {
				m.put(x.Name)
				return x.Type
			}
		}
	}
	k := api.Kind(1 + m.r.Intn(int(api.KString)))
	m.put(value.Word(k))
	return api.Type{Kind: k}
}

// spec writes any type.
func (m *maker) spec() api.Type {
	switch m.r.Intn(4) {
	case 0:
		from := m.r.Intn(1000) - 500
		to := from + m.r.Intn(api.MaxArray)
		m.puts("ARRAY", "[")
		m.number(from)
		m.put("..")
		m.number(to)
		m.puts("]", "OF")
		t := m.simple()
		t.Array, t.From, t.To = true, from, to
		return t
	case 1:
		for _, x := range m.project.Types {
			if m.often(2) {
				m.put(x.Name)
				return x.Type
			}
		}
		block := []string{"TON", "SR", "SOMETHING"}[m.r.Intn(3)]
		m.put(block)
		return api.Type{Block: block}
	}
	return m.simple()
}

func (m *maker) types() {
	m.put("TYPE")
	for range m.r.Intn(4) {
		name := m.fresh("T")
		named := api.Named{Name: name, At: m.put(name)}
		m.put(":")
		if m.often(3) {
			named.Type = m.spec()
		} else {
			named.Type = m.enum()
		}
		m.put(";")
		m.project.Types = append(m.project.Types, named)
	}
	m.put("END_TYPE")
}

func (m *maker) enum() api.Type {
	m.put("(")
	last := m.r.Intn(4)
	for n := range last + 1 {
		if n > 0 {
			m.put(",")
		}
		name := m.fresh("C")
		v, _ := value.Int(api.KInt, n)
		m.project.Consts = append(m.project.Consts, api.Const{Name: name, At: m.put(name), Value: v})
	}
	m.put(")")
	return api.Type{Kind: api.KInt, Sub: true, Hi: last}
}

// one writes an initial value for a kind within bounds.
func (m *maker) one(t api.Type) api.Value {
	if t.Kind == api.KString {
		m.putText("'q'")
		return api.Value{Kind: api.KString, Text: "q"}
	}
	if c := m.project.Consts; t.Kind == api.KInt && !t.Sub && len(c) > 0 && m.often(2) {
		x := c[m.r.Intn(len(c))]
		m.put(x.Name)
		return x.Value
	}
	switch {
	case t.Kind == api.KLreal:
		m.puts("-", "2.5")
		return value.Lreal(-2.5)
	case t.Kind == api.KTime:
		m.put("T#1s")
		return api.Value{Kind: api.KTime, Bits: 1000000000}
	case t.Kind == api.KDate || t.Kind == api.KTod || t.Kind == api.KDt:
		texts := map[api.Kind]string{api.KDate: "D#1970-01-01", api.KTod: "TOD#00:00:00", api.KDt: "DT#1970-01-01-00:00:00"}
		m.put(texts[t.Kind])
		return api.Value{Kind: t.Kind}
	case t.Sub && t.Lo > -1<<63:
		m.number(t.Lo)
		v, _ := value.Int(t.Kind, t.Lo)
		return v
	case m.often(2):
		m.put(value.Word(t.Kind) + "#1")
	default:
		m.put("1")
	}
	v, _ := value.Int(t.Kind, 1)
	return v
}

// initial writes initial values of a type, or none.
func (m *maker) initial(class int, t api.Type) []api.Value {
	if class == api.VarInOut || class == api.VarExternal || t.Block != "" || m.often(2) || t.Sub && (t.Lo > 1 || t.Hi < 1) {
		return nil
	}
	m.put(":=")
	if !t.Array {
		return []api.Value{m.one(t)}
	}
	m.put("[")
	l := []api.Value{m.one(t)}
	for range m.r.Intn(min(t.To-t.From+1, 5)) {
		m.put(",")
		l = append(l, m.one(t))
	}
	m.put("]")
	return l
}

// sections writes variables of a POU, or of the configuration (what is 0).
func (m *maker) sections(what int, vars []api.Var) []api.Var {
	words := map[int]string{api.VarIn: "VAR_INPUT", api.VarOut: "VAR_OUTPUT", api.VarInOut: "VAR_IN_OUT", api.VarLocal: "VAR", api.VarTemp: "VAR_TEMP", api.VarExternal: "VAR_EXTERNAL", api.VarGlobal: "VAR_GLOBAL"}
	for range m.r.Intn(4) {
		class := 1 + m.r.Intn(7)
		if what == 0 {
			class = api.VarGlobal
		} else if class == api.VarGlobal || what == api.PouFunction && (class == api.VarOut || class == api.VarExternal) {
			class = api.VarLocal
		}
		m.put(words[class])
		shape := api.Var{Class: class}
		isLasting := class == api.VarLocal || class == api.VarGlobal
		switch {
		case what != api.PouFunction && (isLasting || class == api.VarIn || class == api.VarOut) && !m.often(3):
			m.put("RETAIN")
			shape.Keep = true
		case (isLasting || class == api.VarExternal) && !m.often(3):
			m.put("CONSTANT")
			shape.Fixed = true
		}
		for range m.r.Intn(4) {
			vars = append(vars, m.vars(what, shape)...)
		}
		m.put("END_VAR")
	}
	return vars
}

func (m *maker) vars(what int, shape api.Var) []api.Var {
	var l []api.Var
	for n := range 1 + m.r.Intn(3) {
		if n > 0 {
			m.put(",")
		}
		shape.Name = m.fresh("V")
		shape.At = m.put(shape.Name)
		l = append(l, shape)
	}
	var t api.Type
	if what == 0 && len(l) == 1 && m.often(2) {
		m.put("AT")
		l[0].Addr = "%QB" + strconv.Itoa(m.count)
		m.puts(l[0].Addr, ":", "BYTE")
		t = api.Type{Kind: api.KByte}
	} else {
		m.put(":")
		t = m.specFor(what, shape.Class)
	}
	init := m.initial(shape.Class, t)
	m.put(";")
	for i := range l {
		l[i].Type, l[i].Init = t, append([]api.Value(nil), init...)
	}
	return l
}

// specFor writes a type that a variable of a class may have.
func (m *maker) specFor(what, class int) api.Type {
	noArray := class == api.VarIn || class == api.VarOut || class == api.VarInOut
	noBlock := noArray || what == 0 || what == api.PouFunction || class == api.VarTemp || class == api.VarExternal
	if !noBlock {
		return m.spec()
	}
	for _, x := range m.project.Types {
		if m.often(2) && x.Type.Block == "" && (!noArray || !x.Type.Array) {
			m.put(x.Name)
			return x.Type
		}
	}
	m.put("INT")
	return api.Type{Kind: api.KInt}
}

func (m *maker) pou() {
	what := 1 + m.r.Intn(3)
	heads := []string{"", "FUNCTION", "FUNCTION_BLOCK", "PROGRAM"}
	m.put(heads[what])
	name := m.fresh("P")
	p := api.Pou{What: what, Name: name, At: m.put(name), Source: m.source, Lang: api.LangST}
	if what == api.PouFunction {
		m.put(":")
		p.Result = m.simple()
	}
	p.Vars = m.sections(what, nil)
	from := m.last
	if m.often(2) {
		langs := []string{"", "ST", "IL", "LD", "FBD", "SFC"}
		p.Lang = 1 + m.r.Intn(5)
		m.put("{ " + langs[p.Lang] + "}")
		from = m.last
	}
	for range m.r.Intn(6) {
		words := strings.Fields("x := 1 ; IF END_IF TYPE END_VAR {X} %IX0.0 CONFIGURATION ) RUNG INT#5 CONSTANT")
		m.put(words[m.r.Intn(len(words))])
	}
	end := m.put("END_" + heads[what])
	p.Text, p.From = m.b.String()[from:end], from
	m.project.Pous = append(m.project.Pous, p)
}

func (m *maker) configuration() {
	m.puts("CONFIGURATION", "CFG")
	m.project.Globals = m.sections(0, nil)
	m.puts("VAR_GLOBAL")
	flag := m.fresh("G")
	m.project.Globals = append(m.project.Globals, api.Var{Name: flag, At: m.put(flag), Class: api.VarGlobal, Type: api.Type{Kind: api.KBool}})
	m.puts(":", "BOOL", ";", "END_VAR", "RESOURCE", "RES", "ON", "CPU")
	m.project.Name, m.project.Source = "RES", m.source
	m.project.Globals = m.sections(0, m.project.Globals)
	for range m.r.Intn(4) {
		m.task(flag)
	}
	for range m.r.Intn(4) {
		m.run()
	}
	m.puts("END_RESOURCE", "END_CONFIGURATION")
}

func (m *maker) task(flag string) {
	m.put("TASK")
	name := m.fresh("K")
	task := api.Task{Name: name, At: m.put(name)}
	m.put("(")
	if m.often(2) {
		m.puts("INTERVAL", ":=", "T#5ms")
		task.Interval = 5000000
	} else {
		m.puts("SINGLE", ":=", flag)
		task.Single = flag
	}
	task.Priority = m.r.Intn(65536)
	m.puts(",", "PRIORITY", ":=", strconv.Itoa(task.Priority), ")", ";")
	m.project.Tasks = append(m.project.Tasks, task)
}

func (m *maker) run() {
	m.put("PROGRAM")
	name := m.fresh("R")
	run := api.Run{Name: name, At: m.put(name), Pou: "MAIN"}
	if l := m.project.Tasks; len(l) > 0 && m.often(2) {
		run.Task = l[m.r.Intn(len(l))].Name
		m.puts("WITH", run.Task)
	}
	m.puts(":", "MAIN", ";")
	m.project.Runs = append(m.project.Runs, run)
}

// make writes some sources.
func (m *maker) make() ([]string, api.Project) {
	all := 1 + m.r.Intn(4)
	config := m.r.Intn(all + 1) // or none
	for m.source = range all {
		for range m.r.Intn(4) {
			if m.often(2) {
				m.types()
			} else {
				m.pou()
			}
		}
		if m.source == config {
			m.configuration()
		}
		m.sources = append(m.sources, m.b.String())
		m.b.Reset()
	}
	return m.sources, m.project
}
