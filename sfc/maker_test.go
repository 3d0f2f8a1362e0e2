package sfc_test

import (
	"math/rand"
	"reflect"
	"strconv"
	"strings"
	"testing"

	"relay/api"
	"relay/sfc"
	"relay/st"
)

// maker writes charts that have no fault, and beside them knows what they are, with places, and their printed form.
type maker struct {
	r                     *rand.Rand
	b                     strings.Builder
	chart                 api.Chart
	steps, trans, actions strings.Builder // the forms
	prefix                string          // of steps' and actions' names
}

func newMaker(seed int64, prefix string) *maker {
	return &maker{r: rand.New(rand.NewSource(seed)), prefix: prefix}
}

func (m *maker) pick(words string) string {
	l := strings.Fields(words)
	return l[m.r.Intn(len(l))]
}

// put writes a word in some letters, and blanks behind it; it answers the word's place.
func (m *maker) put(s string) int {
	at := m.b.Len()
	if m.r.Intn(2) == 0 {
		s = strings.ToLower(s)
	}
	m.b.WriteString(s)
	m.b.WriteString([]string{" ", "\t", "\n", " (* END_ACTION *) ", "\r\n // STEP\n"}[m.r.Intn(5)])
	return at
}

func (m *maker) all(words ...string) {
	for _, s := range words {
		m.put(s)
	}
}

// write writes so many parts, in any order; it answers the text.
func (m *maker) write(parts int) string {
	for range parts {
		switch kind := m.r.Intn(3); {
		case kind == 0 && len(m.chart.Steps) < api.MaxSteps:
			m.step()
		case kind == 1 && len(m.chart.Actions) < api.MaxSteps:
			m.action()
		case len(m.chart.Trans) < api.MaxTrans:
			m.transition()
		}
	}
	return m.b.String()
}

func (m *maker) form() string { return m.steps.String() + m.trans.String() + m.actions.String() }

// spans are literals of KTime, and their forms.
var spans = []struct {
	word, form string
	time       int
}{
	{"T#5s", "T#5S", 5000000000}, {"TIME#0s", "T#0S", 0}, {"T#-0s", "T#0S", 0}, {"t#1.5m", "T#1M30S", 90000000000}, {"T#9223372036854775807ns", "T#106751D23H47M16S854MS775US807NS", 1<<63 - 1}, {"T#1d_2h", "T#1D2H", 93600000000000},
}

func (m *maker) step() {
	s := api.Step{Initial: m.r.Intn(3) == 0, Name: m.prefix + strconv.Itoa(len(m.chart.Steps))}
	word := "STEP"
	if s.Initial {
		word = "INITIAL_STEP"
	}
	m.put(word)
	s.At = m.put(s.Name)
	m.put(":")
	m.steps.WriteString(word + " " + s.Name + ":\n")
	for range m.r.Intn(api.MaxLinks + 1) {
		link := api.Link{Qual: m.pick("N S R P P0 P1 L D SD DS SL"), Name: m.pick("X Y N L T DS")}
		link.At = m.put(link.Name)
		m.all("(", link.Qual)
		m.steps.WriteString("  " + link.Name + "(" + link.Qual)
		if strings.Contains("L D SD DS SL", link.Qual) && link.Qual != "S" {
			span := spans[m.r.Intn(len(spans))]
			link.Time = span.time
			m.all(",", span.word)
			m.steps.WriteString(", " + span.form)
		}
		m.all(")", ";")
		m.steps.WriteString(");\n")
		s.Links = append(s.Links, link)
	}
	m.put("END_STEP")
	m.steps.WriteString("END_STEP\n")
	m.chart.Steps = append(m.chart.Steps, s)
}

// side writes the steps of a side; it answers them and their form.
func (m *maker) side() ([]string, string) {
	names := strings.Fields("A B C D1 FROM1 L TO_ N X")
	m.r.Shuffle(len(names), func(i, k int) { names[i], names[k] = names[k], names[i] })
	names = names[:1+m.r.Intn(3)*m.r.Intn(4)]
	names = names[:min(len(names), api.MaxLinks)]
	if len(names) == 1 && m.r.Intn(2) == 0 {
		m.put(names[0])
		return names, names[0]
	}
	m.put("(")
	for i, s := range names {
		if i > 0 {
			m.put(",")
		}
		m.put(s)
	}
	m.put(")")
	if len(names) == 1 {
		return names, names[0]
	}
	return names, "(" + strings.Join(names, ", ") + ")"
}

var someConditions = []string{"go", "a AND NOT b.q", "x[i + 1] > 5", "NOT (a & b)", "f(x := 1, 2) <> INT#-3", "TRUE", "s1.t >= t", "((a))"}

func (m *maker) transition() {
	t := api.Trans{At: m.put("TRANSITION"), Name: m.pick("T1 T1 T2 STEP1 N")}
	m.trans.WriteString("TRANSITION ")
	if m.r.Intn(2) == 0 {
		t.Name = ""
	} else {
		m.put(t.Name)
		m.trans.WriteString(t.Name + " ")
	}
	m.put("FROM")
	from, form := m.side()
	m.put("TO")
	to, toForm := m.side()
	t.From, t.To = from, to
	m.put(":=")
	src := someConditions[m.r.Intn(len(someConditions))]
	e, err := st.Expr(src)
	if err != nil {
		panic(src)
	}
	m.trans.WriteString("FROM " + form + " TO " + toForm + " := " + st.PrintExpr(e) + ";\nEND_TRANSITION\n")
	shift(reflect.ValueOf(&e).Elem(), m.put(src))
	t.Cond = e
	m.all(";", "END_TRANSITION")
	m.chart.Trans = append(m.chart.Trans, t)
}

var someBodies = []string{"", ";", "n := n + 1;", "IF a THEN b := 1; ELSIF c THEN ELSE t(IN := a, Q => q); END_IF;\nx := y;", "{BOUND 3} WHILE a DO FOR i := 1 TO 5 DO EXIT; END_FOR; END_WHILE;", "CASE a OF 1, 3..5: RETURN; ELSE ; END_CASE;", "{BOUND 1} REPEAT a[1] := f(b); UNTIL c END_REPEAT;"}

func (m *maker) action() {
	a := api.Action{Name: m.prefix + "x" + strconv.Itoa(len(m.chart.Actions))}
	m.put("ACTION")
	a.At = m.put(a.Name)
	a.Name = strings.ToUpper(a.Name)
	m.put(":")
	src := someBodies[m.r.Intn(len(someBodies))]
	l, err := st.Parse(src)
	if err != nil {
		panic(src)
	}
	m.actions.WriteString("ACTION " + a.Name + ":\n")
	for _, line := range strings.SplitAfter(st.Print(l), "\n") {
		if line != "" {
			m.actions.WriteString("  " + line)
		}
	}
	m.actions.WriteString("END_ACTION\n")
	shift(reflect.ValueOf(&l).Elem(), m.put(src))
	a.Body = l
	m.put("END_ACTION")
	m.chart.Actions = append(m.chart.Actions, a)
}

// shift moves all places in a tree.
func shift(v reflect.Value, by int) {
	switch v.Kind() {
	case reflect.Slice:
		for i := range v.Len() {
			shift(v.Index(i), by)
		}
	case reflect.Struct:
		for i := range v.NumField() {
			if v.Type().Field(i).Name == "At" {
				v.Field(i).SetInt(v.Field(i).Int() + int64(by))
			} else {
				shift(v.Field(i), by)
			}
		}
	}
}

// forget sets all places to 0, and lists without elements to nil.
func forget(v reflect.Value) {
	switch v.Kind() {
	case reflect.Slice:
		if v.Len() == 0 {
			v.SetZero()
		}
		for i := range v.Len() {
			forget(v.Index(i))
		}
	case reflect.Struct:
		for i := range v.NumField() {
			if v.Type().Field(i).Name == "At" {
				v.Field(i).SetZero()
			} else {
				forget(v.Field(i))
			}
		}
	}
}

// placeless takes the places out of a chart that is the caller's own.
func placeless(c api.Chart) api.Chart {
	forget(reflect.ValueOf(&c).Elem())
	return c
}

func parsed(t *testing.T, src string) api.Chart {
	t.Helper()
	c, err := sfc.Parse(src)
	if err != nil {
		t.Fatalf("%.300q: %v", src, err)
	}
	return c
}

func isZero(c api.Chart) bool { return len(c.Steps) == 0 && len(c.Trans) == 0 && len(c.Actions) == 0 }
