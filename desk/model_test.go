package desk_test

import (
	"math/rand"
	"reflect"
	"slices"
	"strings"
	"testing"

	"relay/api"
	"relay/desk"
	"relay/plc"
	"relay/samples"
	"relay/sched"
	"relay/value"
)

// happened is a call of a resource that had no error.
type happened struct {
	what   string
	now    int // ahead of it
	entry  api.Entry
	report api.Report
}

// model is a desk that is told calls in the place of lines, and remembers all of them.
type model struct {
	sources, compiled []string
	image             api.Image
	hasImage          bool
	resource          *sched.Resource
	inputs            []api.Input
	history           []happened
}

// modelOf is one with the image of sources.
func modelOf(t *testing.T, sources []string) *model {
	t.Helper()
	m := &model{sources: sources}
	if answer := m.compile(); !m.hasImage {
		t.Fatalf("%q: %s", sources, answer)
	}
	return m
}

// inputCells is the numbers of all input cells.
func (m *model) inputCells() []int {
	var l []int
	for i, c := range m.image.Cells {
		if c.Dir == 1 {
			l = append(l, i)
		}
	}
	return l
}

func (m *model) compile() string {
	m.resource, m.hasImage = nil, false
	var faults []api.Diag
	if m.image, faults = plc.Compile(m.sources); len(faults) > 0 {
		answer := "at"
		for _, f := range faults {
			answer += " " + digits(f.Source) + " " + digits(f.Fault.At) + " " + digits(int(f.Fault.Why))
		}
		return answer
	}
	m.hasImage, m.compiled = true, slices.Clone(m.sources)
	return "image " + digits(len(m.image.Cells)) + " " + digits(len(m.image.Codes)) + " " + digits(len(m.image.Jobs))
}

// call is an answer of a call that leads to a mode.
func (m *model) call(what string, does func() api.Errno) string {
	now := m.resource.Now()
	if why := does(); why != api.OK {
		return "error " + digits(int(why))
	}
	m.history = append(m.history, happened{what: what, now: now})
	return map[int]string{api.ModeStop: "stopped", api.ModeRun: "running", api.ModeFault: "failed"}[m.resource.Mode()]
}

func (m *model) tick(advance int) string {
	e := api.Entry{Advance: advance, Inputs: slices.Clone(m.inputs)}
	now := m.resource.Now()
	report, why := m.resource.Entry(e.Advance, e.Inputs)
	if why != api.OK {
		return "error " + digits(int(why))
	}
	m.inputs = nil
	m.history = append(m.history, happened{"tick", now, e, report})
	if report.Fault != 0 {
		return "failed " + digits(report.Fault) + " " + report.In
	}
	return strings.Join(append([]string{"ran"}, report.Ran...), " ")
}

// mean looks back over all that happened: to the last load, or to a cold at time 0.
func (m *model) mean() string {
	from := 0
	for i, h := range m.history {
		if h.what == "cold" && h.now == 0 {
			from = i + 1
		}
	}
	starts, isMeant := 0, true
	var script []api.Entry
	var reports []api.Report
	for _, h := range m.history[from:] {
		switch h.what {
		case "start":
			starts++
		case "stop", "warm":
			isMeant = false
		case "tick":
			isMeant = isMeant && starts > 0
			h.report.Steps = 0
			script, reports = append(script, h.entry), append(reports, h.report)
		}
	}
	if !isMeant || starts != 1 {
		return "error 230"
	}
	meant, faults := plc.Mean(m.compiled, script)
	if len(faults) > 0 || len(meant) != len(reports) {
		return "other"
	}
	for i := range meant {
		a, b := plain(meant[i]), plain(reports[i])
		if !reflect.DeepEqual(a, b) {
			return "other"
		}
	}
	return "same"
}

// plain is a report none of whose lists is nil.
func plain(r api.Report) api.Report {
	r.Ran, r.Outputs, r.Over = append([]string{}, r.Ran...), append([]api.Input{}, r.Outputs...), append([]int{}, r.Over...)
	return r
}

// say is what a line of words that are right answers, and the error that ends the script.
func (m *model) say(line string) (string, api.Errno) {
	words := strings.Fields(line)
	switch {
	case words[0] == "source":
		if len(m.sources) == 16 {
			return "", api.ErrLong
		}
		m.sources = append(slices.Clone(m.sources), strings.ReplaceAll(strings.TrimPrefix(line, "source "), "^", "\n"))
		return "source " + digits(len(m.sources)), api.OK
	case words[0] == "compile":
		return m.compile(), api.OK
	case words[0] == "load" && m.hasImage:
		m.resource, _ = sched.New(m.image)
		m.history = nil
		return "loaded", api.OK
	case m.resource == nil:
		return "", api.ErrThing
	}
	switch words[0] {
	case "start":
		return m.call("start", m.resource.Start), api.OK
	case "stop":
		return m.call("stop", m.resource.Stop), api.OK
	case "cold", "warm":
		return m.call(words[0], func() api.Errno { return m.resource.Reset(words[0] == "warm") }), api.OK
	case "set":
		return m.set(words[1], words[2])
	case "tick":
		return m.tick(whole(words[1])), api.OK
	case "outputs":
		answer := "out"
		for _, o := range m.resource.Outputs() {
			answer += " " + o.Addr + "=" + value.Print(o.Value)
		}
		return answer, api.OK
	case "cell":
		cells, n := m.resource.Cells(), whole(words[1])
		if n < 0 || n >= len(cells) {
			return "error 1", api.OK
		}
		return value.Word(cells[n].Kind) + "=" + value.Print(cells[n]), api.OK
	}
	return m.mean(), api.OK
}

func (m *model) set(addr, word string) (string, api.Errno) {
	for _, c := range m.image.Cells {
		if c.Addr != addr || c.Dir != 1 {
			continue
		}
		v, fault := value.Convert(c.Kind, value.Bool(word == "TRUE"))
		isWord := word == "TRUE" || word == "FALSE"
		if c.Kind != api.KBool {
			isWord = !isWord
			v, fault = value.Int(c.Kind, whole(word))
		}
		if !isWord || fault != 0 {
			return "error 5", api.OK
		}
		m.inputs = append(m.inputs, api.Input{Addr: addr, Value: v})
		return "set", api.OK
	}
	return "", api.ErrThing
}

// whole is the number of a word, digit by digit.
func whole(word string) int {
	n, sign := 0, 1
	for _, c := range word {
		if c == '-' {
			sign = -1
		} else {
			n = n*10 + int(c-'0')
		}
	}
	return sign * n
}

// someWord is a word for a cell by chance, mostly one of its kind.
func someWord(r *rand.Rand, c api.Cell) string {
	if c.Kind == api.KBool && r.Intn(10) > 0 || r.Intn(20) == 0 {
		return pick(r, "TRUE", "FALSE")
	}
	return digits(pick(r, r.Intn(5), r.Intn(5), 0, -1, r.Intn(300)-150, r.Intn(100000), 999999999999999))
}

// someLine is a line by chance, mostly one that can be done.
func someLine(r *rand.Rand, m *model) string {
	cell, addr, word := r.Intn(len(m.image.Cells)+1), "%IX0.0", "TRUE"
	if l := m.inputCells(); len(l) > 0 {
		c := m.image.Cells[pick(r, l...)]
		addr, word = c.Addr, someWord(r, c)
	}
	if m.resource == nil && r.Intn(20) > 0 {
		return "load"
	}
	if r.Intn(200) == 0 {
		return pick(r, "set %IX9.9 TRUE", "load", "compile", "source ", "source x", "compile", "start")
	}
	if m.resource != nil && m.resource.Mode() == api.ModeStop && r.Intn(2) == 0 {
		return "start"
	}
	switch r.Intn(24) {
	case 0:
		return "start"
	case 1, 2, 3:
		return pick(r, "tick 0", "mean", "tick 12000000")
	case 4:
		return "stop"
	case 5:
		return "cold"
	case 6:
		return "warm"
	case 7, 8, 9, 10:
		return "set " + addr + " " + word
	case 11, 12:
		return "cell " + digits(cell)
	case 13, 14:
		return "outputs"
	case 15, 16:
		return "mean"
	case 17:
		return pick(r, "load", "compile", "source FUNCTION q"+digits(r.Intn(1000000))+" : INT q := 1; END_FUNCTION")
	}
	return "tick " + pick(r, "0", "0", "1000000", "7000000", "10000000", "12000000", "-1", "1099511627777")
}

// script is lines by chance, what they answer, and the error that ends them, if there is one.
func (m *model) script(r *rand.Rand, sources []string) ([]string, []string, api.Errno) {
	lines := strings.Split(sourceLines(sources)+loaded, "\n")
	lines = lines[:len(lines)-1]
	var answers []string
	for i := 0; i < 60; i++ {
		if i >= len(lines) {
			lines = append(lines, someLine(r, m))
		}
		answer, why := m.say(lines[i])
		if why != api.OK {
			return lines, nil, why
		}
		answers = append(answers, answer)
	}
	return lines, answers, api.OK
}

// P25.1, P25.2: whatever lines there are, they answer what the chapter's table has. P25.4: two runs of a script answer the same, and those of its beginnings are the beginnings of its answers.
func TestModel(t *testing.T) {
	ends, answered := map[api.Errno]int{}, map[string]int{}
	for seed := range 300 {
		r := rand.New(rand.NewSource(int64(seed)))
		sources := samples.Projects(r.Intn)
		if r.Intn(4) == 0 {
			sources = []string{strings.TrimPrefix(strings.TrimSuffix(divides, "\n"), "source ")}
		}
		lines, want, why := new(model).script(r, sources)
		script := strings.Join(lines, "\n")
		got, err := desk.Run(script)
		ends[why]++
		if why != api.OK {
			if err != (api.Fault{At: len(lines), Why: why}) || len(got) > 0 {
				t.Fatalf("%q: %q %v, not %v", script, got, err, why)
			}
			continue
		}
		if err != nil || !slices.Equal(got, want) {
			t.Fatalf("%q: %q %v, not %q", script, got, err, want)
		}
		again, _ := desk.Run(script)
		n := r.Intn(len(lines) + 1)
		begins, err := desk.Run(strings.Join(lines[:n], "\n"))
		if !slices.Equal(again, want) || err != nil || !slices.Equal(begins, want[:n]) {
			t.Fatalf("%q: %q %q, not %q", script, again, begins, want)
		}
		for _, answer := range got {
			word, _, _ := strings.Cut(answer, " ")
			if word == "error" {
				word = answer
			}
			if !strings.Contains(word, "=") {
				answered[word]++
			}
		}
	}
	if ends[api.OK] < 150 || ends[api.ErrThing] < 30 {
		t.Error(ends)
	}
	for _, word := range []string{"source", "image", "loaded", "running", "stopped", "set", "ran", "failed", "out", "same", "error 1", "error 5", "error 230", "error 231"} {
		if answered[word] < 20 {
			t.Error(word, answered[word])
		}
	}
}
