package sfccore_test

import (
	"fmt"
	"math/rand"
	"reflect"
	"regexp"
	"strconv"
	"strings"
	"testing"

	"relay/api"
	"relay/sfc"
	"relay/sfccore"
	"relay/shown"
)

// maker writes charts' texts by chance.
type maker struct{ r *rand.Rand }

func newMaker(seed int64) maker { return maker{rand.New(rand.NewSource(seed))} }

func (m maker) pick(words ...string) string { return words[m.r.Intn(len(words))] }

// some is a few of so many names, or one.
func (m maker) some(letter string, count int) string {
	var l []string
	for _, n := range m.r.Perm(count)[:1+m.r.Intn(min(count, 3))] {
		l = append(l, letter+strconv.Itoa(n))
	}
	if len(l) == 1 || m.r.Intn(2) == 0 {
		return l[0]
	}
	return "(" + strings.Join(l, ", ") + ")"
}

var qualifiers = []string{"N", "S", "R", "P", "P0", "P1", "L, T#5ns", "D, T#0s", "SD, T#7ns", "DS, T#1s", "SL, T#3ns"}

// chart writes a chart: steps s0 and so on, actions a0 and so on, and variables.
func (m maker) chart() string {
	steps, actions := 1+m.r.Intn(5), m.r.Intn(4)
	var parts []string
	for i := range steps {
		s := "STEP s" + strconv.Itoa(i) + ": "
		if i == 0 {
			s = "INITIAL_" + s
		}
		for range m.r.Intn(4) {
			s += m.pick("a0", "a1", "a2", "v", "w", "s0", "q") + "(" + m.pick(qualifiers...) + "); "
		}
		parts = append(parts, s+"END_STEP ")
	}
	m.r.Shuffle(len(parts), func(i, k int) { parts[i], parts[k] = parts[k], parts[i] })
	for range m.r.Intn(6) {
		parts = append(parts, "TRANSITION FROM "+m.some("s", steps)+" TO "+m.some("s", steps)+" := "+m.condition()+"; END_TRANSITION ")
	}
	for i := range actions {
		parts = append(parts, "ACTION a"+strconv.Itoa(i)+": "+m.body(2)+"END_ACTION ")
	}
	if m.r.Intn(4) == 0 {
		m.r.Shuffle(len(parts), func(i, k int) { parts[i], parts[k] = parts[k], parts[i] })
	}
	return strings.Join(parts, "")
}

func (m maker) condition() string {
	return m.pick("go", "TRUE", "NOT s0.x", "s1.t > T#5ns", "x[n + 1] OR s2.x", "f(s0.t, s1 := s1.x) AND b.q", "s0.q", "s9.x", "s0 = a0", "x[s1.t]", "-s3.t < s2.t", "a0.x", "s0.et")
}

func (m maker) body(deep int) string {
	s := ""
	for range m.r.Intn(4) {
		switch kind := m.r.Intn(12); {
		case deep == 0 || kind < 4:
			s += m.pick("n := n + 1;", ";", "s0.x := s1.x;", "s2.t := s2.t;", "x[s0.t] := s1;", "EXIT;", "RETURN;", "n := s1.x1;", "s9.t := 1;")
		case kind == 4:
			s += "IF " + m.condition() + " THEN " + m.body(deep-1) + "ELSIF s3.x THEN " + m.body(deep-1) + "ELSE " + m.body(deep-1) + "END_IF;"
		case kind == 5:
			s += "CASE s1.t OF 1, 3..5: " + m.body(deep-1) + "7: ELSE " + m.body(deep-1) + "END_CASE;"
		case kind == 6:
			s += "FOR s1 := s0.x TO s1.t BY s4.t DO " + m.body(deep-1) + "END_FOR;"
		case kind == 7:
			s += "{BOUND 5} WHILE " + m.condition() + " DO " + m.body(deep-1) + "END_WHILE;"
		case kind == 8:
			s += "{BOUND 9} REPEAT " + m.body(deep-1) + "UNTIL " + m.condition() + " END_REPEAT;"
		default:
			s += m.pick("s0", "t") + "(" + m.pick("", "s0.x, ", "s1 := s1.t, ", "x := NOT s0.x, ") + "x => s1.x, s0 => s0.t, b => x[s2.x]);"
		}
		s += m.pick(" ", "\n", "  ")
	}
	return s
}

func parsed(t *testing.T, src string) api.Chart {
	t.Helper()
	c, err := sfc.Parse(src)
	if err != nil {
		t.Fatalf("%q: %v", src, err)
	}
	return c
}

// model is what the chapter says of a chart, as texts.
type model struct {
	c    api.Chart
	out  []string
	vars []api.Var
	own  map[string]bool // steps' timers that are asked, by their numbers
}

// step is the number of the first step of a name; 0: there is none.
func (m *model) step(name string) int {
	for i, s := range m.c.Steps {
		if s.Name == name {
			return i + 1
		}
	}
	return 0
}

// fault is the place of a fault; false, if there is none.
func (m *model) fault() (int, bool) {
	var initial []int
	for _, s := range m.c.Steps {
		if s.Initial {
			initial = append(initial, s.At)
		}
	}
	switch {
	case len(m.c.Steps) == 0:
		return 0, true
	case len(initial) > 1:
		return initial[1], true
	case len(initial) == 0:
		return m.c.Steps[0].At, true
	}
	for _, t := range m.c.Trans {
		for _, name := range append(append([]string{}, t.From...), t.To...) {
			if m.step(name) == 0 {
				return t.At, true
			}
		}
	}
	return 0, false
}

var made = regexp.MustCompile(`_[A-Z]\d+\.Q|_[XOFBQS]\d+|AND|OR|NOT|TRUE|FALSE|TIME#`)

// put adds a statement's text. Whatever it is made of has the place 0; in the place of a § stands what has places of its own.
func (m *model) put(at int, text string, own ...string) {
	text = made.ReplaceAllString(text, "0:$0")
	for _, s := range own {
		text = strings.Replace(text, "§", s, 1)
	}
	m.out = append(m.out, strconv.Itoa(at)+"> "+text)
}

var stepsOwn = regexp.MustCompile(`(\d+):([A-Z0-9]+)\.([XT])\b`)

// inner is the text of a condition or a body, with steps' variables in it as the hidden ones.
func (m *model) inner(text string) string {
	return stepsOwn.ReplaceAllStringFunc(text, func(s string) string {
		part := stepsOwn.FindStringSubmatch(s)
		n := strconv.Itoa(m.step(part[2]))
		switch {
		case n == "0":
			return s
		case part[3] == "X":
			return part[1] + ":_X" + n
		}
		m.own[n] = true
		return part[1] + ":_T" + n + ".ET"
	})
}

func (m *model) fires() {
	for j, t := range m.c.Trans {
		row := make([]string, 0)
		for _, name := range t.From {
			row = append(row, fmt.Sprint("_X", m.step(name)))
		}
		row = append(row, "§")
		for k, before := range m.c.Trans[:j] {
			common := false
			for _, a := range t.From {
				for _, b := range before.From {
					common = common || a == b
				}
			}
			if common {
				row = append(row, fmt.Sprint("(NOT _F", k+1, ")"))
			}
		}
		text := strings.Repeat("(", len(row)-1) + row[0]
		for _, s := range row[1:] {
			text += " AND " + s + ")"
		}
		m.put(t.At, fmt.Sprint("_F", j+1, " := ", text, ";"), m.inner(shown.PlacedExpr(t.Cond)))
	}
	for _, is := range []string{"FALSE", "TRUE"} {
		for j, t := range m.c.Trans {
			side := t.From
			if is == "TRUE" {
				side = t.To
			}
			var l []string
			for _, name := range side {
				l = append(l, fmt.Sprint("0> _X", m.step(name), " := ", is, ";"))
			}
			m.put(0, fmt.Sprint("IF _F", j+1, " THEN ", strings.Join(l, " "), " END_IF;"))
		}
	}
}

// modelLink is a link, with its number and that of its step.
type modelLink struct {
	api.Link
	l, i int
}

func (m *model) links() []modelLink {
	var all []modelLink
	for i, s := range m.c.Steps {
		for _, k := range s.Links {
			all = append(all, modelLink{k, len(all) + 1, i + 1})
		}
	}
	return all
}

func is(qual string, of ...string) bool {
	for _, q := range of {
		if q == qual {
			return true
		}
	}
	return false
}

// target writes what the target number a with some links does, up to what hangs on its being an action or a variable.
func (m *model) target(a int, links []modelLink) (stored bool) {
	latches := ""
	for _, k := range links {
		stored = stored || is(k.Qual, "S", "DS")
		if is(k.Qual, "SD", "SL") {
			latches += fmt.Sprint(" 0> _B", k.l, " := FALSE;")
		}
	}
	if stored {
		latches = fmt.Sprint(" 0> _S", a, " := FALSE;") + latches
	}
	write := func(k modelLink, texts ...string) {
		for _, s := range texts {
			t := strconv.Itoa(max(k.Time, 0))
			m.put(0, strings.NewReplacer("_Qa", fmt.Sprint("_Q", a), "_Sa", fmt.Sprint("_S", a), "_Xi", fmt.Sprint("_X", k.i), "_Oi", fmt.Sprint("_O", k.i), "_Bl", fmt.Sprint("_B", k.l), "_Dl", fmt.Sprint("_D", k.l), "PT := t", "PT := TIME#"+t+"''").Replace(s))
		}
	}
	write(modelLink{}, "_Qa := FALSE;")
	begins := map[string]string{"S": "IF _Xi THEN 0> _Sa := TRUE; END_IF;", "SD": "IF _Xi THEN 0> _Bl := TRUE; END_IF;", "SL": "IF (_Xi AND (NOT _Oi)) THEN 0> _Bl := TRUE; END_IF;"}
	for _, k := range links {
		if begins[k.Qual] != "" {
			write(k, begins[k.Qual])
		}
	}
	for _, k := range links {
		if k.Qual == "R" {
			write(k, "IF _Xi THEN "+strings.TrimPrefix(latches, " ")+" END_IF;")
		}
	}
	does := map[string][]string{
		"S": {}, "R": {},
		"P":  {"_Qa := (_Qa OR (_Xi AND (NOT _Oi)));"},
		"P1": {"_Qa := (_Qa OR (_Xi AND (NOT _Oi)));"},
		"P0": {"_Qa := (_Qa OR ((NOT _Xi) AND _Oi));"},
		"L":  {"_Dl(IN := _Xi, PT := t|);", "_Qa := (_Qa OR (_Xi AND (NOT _Dl.Q)));"},
		"D":  {"_Dl(IN := _Xi, PT := t|);", "_Qa := (_Qa OR _Dl.Q);"},
		"SD": {"_Dl(IN := _Bl, PT := t|);", "_Qa := (_Qa OR _Dl.Q);"},
		"DS": {"_Dl(IN := _Xi, PT := t|);", "IF _Dl.Q THEN 0> _Sa := TRUE; END_IF;"},
		"SL": {"_Dl(IN := _Bl, PT := t|);", "_Qa := (_Qa OR (_Bl AND (NOT _Dl.Q)));"},
	}
	for _, k := range links {
		texts, known := does[k.Qual]
		if !known {
			texts = []string{"_Qa := (_Qa OR _Xi);"}
		}
		write(k, texts...)
	}
	if stored {
		write(modelLink{}, "_Qa := (_Qa OR _Sa);")
	}
	return stored
}

func (m *model) add(class int, t api.Type, name ...any) {
	m.vars = append(m.vars, api.Var{Name: fmt.Sprint(name...), Class: class, Type: t})
}

// chartModel is what the chapter says of a chart without a fault: the statements' text, with places, and the hidden variables.
func chartModel(c api.Chart) (string, []api.Var) {
	m := &model{c: c, own: map[string]bool{}}
	bit, timer := api.Type{Kind: api.KBool}, api.Type{Block: "TON"}
	for i, s := range c.Steps {
		m.add(api.VarLocal, bit, "_X", i+1)
		if s.Initial {
			m.vars[len(m.vars)-1].Init = []api.Value{{Kind: api.KBool, Bits: 1}}
		}
		m.add(api.VarLocal, bit, "_O", i+1)
	}
	for j := range c.Trans {
		m.add(api.VarTemp, bit, "_F", j+1)
	}
	for _, k := range m.links() {
		if is(k.Qual, "SD", "SL") {
			m.add(api.VarLocal, bit, "_B", k.l)
		}
		if is(k.Qual, "L", "D", "SD", "DS", "SL") {
			m.add(api.VarLocal, timer, "_D", k.l)
		}
	}
	m.fires()
	m.run(bit)
	for i := range c.Steps {
		m.put(0, fmt.Sprint("_O", i+1, " := _X", i+1, ";"))
		if m.own[strconv.Itoa(i+1)] {
			m.put(0, fmt.Sprint("_T", i+1, "(IN := _X", i+1, ", PT := TIME#9223372036854775807''|);"))
			m.add(api.VarLocal, timer, "_T", i+1)
		}
	}
	return strings.Join(m.out, " "), m.vars
}

// run writes what all targets do.
func (m *model) run(bit api.Type) {
	var names []string
	for _, x := range m.c.Actions {
		if !is(x.Name, names...) {
			names = append(names, x.Name)
		}
	}
	actions := len(names)
	for _, k := range m.links() {
		if !is(k.Name, names...) {
			names = append(names, k.Name)
		}
	}
	for a, name := range names {
		var links []modelLink
		for _, k := range m.links() {
			if k.Name == name {
				links = append(links, k)
			}
		}
		m.add(api.VarTemp, bit, "_Q", a+1)
		if m.target(a+1, links) {
			m.add(api.VarLocal, bit, "_S", a+1)
		}
		if a >= actions {
			m.put(links[0].At, fmt.Sprint("§ := _Q", a+1, ";"), "0:"+name)
			continue
		}
		for _, x := range m.c.Actions {
			if x.Name == name {
				m.put(x.At, fmt.Sprint("IF _Q", a+1, " THEN § END_IF;"), m.inner(shown.Placed(x.Body)))
				break
			}
		}
	}
}

// asModel holds what is answered against the model, places and all; it tells whether there was no fault.
func asModel(t *testing.T, c api.Chart) bool {
	t.Helper()
	s, v, err := sfccore.Chart(c)
	if at, faulty := (&model{c: c}).fault(); faulty {
		if err != error(api.Fault{At: at, Why: api.ErrStep}) || len(s)+len(v) != 0 {
			t.Fatalf("%+v: %v, not a fault at %d", c, err, at)
		}
		return false
	}
	want, vars := chartModel(c)
	if got := shown.Placed(s); err != nil || got != want {
		t.Fatalf("%+v:\n%s\n%s\n%v", c, got, want, err)
	}
	if !reflect.DeepEqual(v, vars) {
		t.Fatalf("%+v:\n%+v\n%+v", c, v, vars)
	}
	return true
}

func TestChartsByChance(t *testing.T) {
	good := 0
	for seed := range int64(4000) {
		if asModel(t, parsed(t, newMaker(seed).chart())) {
			good++
		}
	}
	if good < 3900 {
		t.Error(good)
	}
}
