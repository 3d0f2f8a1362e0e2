package plc_test

import (
	"math/rand"
	"slices"
	"strconv"
	"strings"
	"testing"

	"relay/api"
	"relay/plc"
	"relay/samples"
)

// config is a configuration of one task, which runs a program P.
const config = "CONFIGURATION c RESOURCE r ON plc TASK t (INTERVAL := T#10ms, PRIORITY := 1); PROGRAM q WITH t : p; END_RESOURCE END_CONFIGURATION"

// plain is a program that has no fault.
const plain = "PROGRAM p END_PROGRAM "

// diag is a diagnostic.
func diag(source, at int, why api.Errno) api.Diag {
	return api.Diag{Source: source, Fault: api.Fault{At: at, Why: why}}
}

// marked is sources without the marks ^ in them, and the places of these: of each source that has one the first.
func marked(sources []string) ([]string, []api.Diag) {
	var l []string
	var places []api.Diag
	for i, s := range sources {
		if at := strings.Index(s, "^"); at >= 0 {
			places = append(places, diag(i, at, api.OK))
			s = strings.Replace(s, "^", "", 1)
		}
		l = append(l, s)
	}
	return l, places
}

// checkFaults checks that sources have these faults at the marks in them, and nothing else.
func checkFaults(t *testing.T, sources []string, why ...api.Errno) {
	t.Helper()
	sources, want := marked(sources)
	if len(want) != len(why) {
		t.Fatal(sources, want)
	}
	for i := range want {
		want[i].Fault.Why = why[i]
	}
	m, got := plc.Compile(sources)
	p, codes, front := plc.Front(sources)
	if !slices.Equal(got, want) || !isEmptyImage(m) {
		t.Errorf("%.300q: %v, not %v", sources, got, want)
	}
	if len(front) > 0 && (!slices.Equal(front, want) || !isEmptyProject(p) || len(codes) > 0) {
		t.Errorf("%.300q: %v, not %v", sources, front, want)
	}
	reports, mean := plc.Mean(sources, []api.Entry{{Advance: -1}})
	if !slices.Equal(mean, want) || len(reports) > 0 {
		t.Errorf("%.300q: %v, not %v", sources, mean, want)
	}
}

func isEmptyImage(m api.Image) bool {
	return m.Name == "" && len(m.Cells) == 0 && len(m.Codes) == 0 && len(m.Jobs) == 0
}

func isEmptyProject(p api.Project) bool {
	return p.Name == "" && p.Source == 0 && len(p.Types)+len(p.Consts)+len(p.Pous)+len(p.Globals)+len(p.Tasks)+len(p.Runs) == 0
}

// compiled is the image of sources that have no fault.
func compiled(t *testing.T, sources ...string) api.Image {
	t.Helper()
	m, faults := plc.Compile(sources)
	if len(faults) > 0 {
		t.Fatalf("%.300q: %v", sources, faults)
	}
	return m
}

// played is the reports of an image under a script.
func played(t *testing.T, m api.Image, script []api.Entry) []api.Report {
	t.Helper()
	l, why := plc.Play(m, script)
	if why != api.OK {
		t.Fatal(why)
	}
	return l
}

// meant is the reports of what sources mean under a script.
func meant(t *testing.T, sources []string, script []api.Entry) []api.Report {
	t.Helper()
	l, faults := plc.Mean(sources, script)
	if len(faults) > 0 {
		t.Fatalf("%.300q: %v", sources, faults)
	}
	return l
}

// sameReports tells whether reports tell the same, Steps aside.
func sameReports(a, b []api.Report) bool {
	return slices.EqualFunc(a, b, func(a, b api.Report) bool {
		return slices.Equal(a.Ran, b.Ran) && slices.Equal(a.Outputs, b.Outputs) && a.Mode == b.Mode && a.Fault == b.Fault && a.In == b.In && slices.Equal(a.Over, b.Over)
	})
}

// each hands on n projects by chance.
func each(n int, to func(r *rand.Rand, sources []string)) {
	for seed := range n {
		r := rand.New(rand.NewSource(int64(seed)))
		to(r, samples.Projects(r.Intn))
	}
}

// many is n texts, one behind the other, in each of which # is its number, from 0 on.
func many(n int, text string) string {
	var b strings.Builder
	for i := range n {
		b.WriteString(strings.ReplaceAll(text, "#", strconv.Itoa(i)))
	}
	return b.String()
}

// pick is one of several things, by chance.
func pick[T any](r *rand.Rand, l ...T) T { return l[r.Intn(len(l))] }
