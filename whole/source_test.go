// Package whole holds whole projects against the promises that go through all layers.
package whole

import (
	"math/rand"
	"slices"
	"testing"

	"relay/api"
	"relay/meaning"
	"relay/plc"
	"relay/samples"
	"relay/sched"
	"relay/tasks"
	"relay/value"
)

// plant is a project, its image, and its typed codes.
type plant struct {
	sources []string
	project api.Project
	codes   []api.Code
	image   api.Image
}

func newPlant(t *testing.T, sources ...string) *plant {
	t.Helper()
	x := &plant{sources: sources}
	var faults []api.Diag
	if x.project, x.codes, faults = plc.Front(sources); len(faults) > 0 {
		t.Fatalf("%q: %v", sources, faults)
	}
	if x.image, faults = plc.Compile(sources); len(faults) > 0 {
		t.Fatalf("%q: %v", sources, faults)
	}
	return x
}

// each hands on n projects by chance.
func each(t *testing.T, n int, to func(r *rand.Rand, x *plant)) {
	t.Helper()
	for seed := range n {
		r := rand.New(rand.NewSource(int64(seed)))
		to(r, newPlant(t, samples.Projects(r.Intn)...))
	}
}

// resource is what sched makes of the image.
func (x *plant) resource(t *testing.T) *sched.Resource {
	t.Helper()
	r, why := sched.New(x.image)
	if why != api.OK {
		t.Fatal(why)
	}
	return r
}

// meant is the other side: tasks whose programs do what their typed codes mean.
func (x *plant) meant() *tasks.Resource {
	return tasks.New(x.image.Cells, x.image.Jobs, func(code, base, now int, mem []api.Value, _ int) ([]api.Value, int, int) {
		after, _, fault := meaning.Run(x.codes, code, base, now, x.image.Cells, mem, 1<<26)
		return after, 0, fault
	})
}

// played is the reports of an image under a script, which what the sources mean must tell too.
func (x *plant) played(t *testing.T, script []api.Entry) []api.Report {
	t.Helper()
	l, why := plc.Play(x.image, script)
	mean, faults := plc.Mean(x.sources, script)
	if why != api.OK || len(faults) > 0 || !slices.EqualFunc(l, mean, same) {
		t.Fatalf("%q: %v %v: %v, not %v", x.sources, why, faults, l, mean)
	}
	return l
}

// same tells whether two reports tell the same, Steps aside.
func same(a, b api.Report) bool {
	return slices.Equal(a.Ran, b.Ran) && slices.Equal(a.Outputs, b.Outputs) && a.Mode == b.Mode && a.Fault == b.Fault && a.In == b.In && slices.Equal(a.Over, b.Over)
}

// config is a configuration whose only task runs the program P each 10 ms, with globals.
func config(globals string) string {
	return "CONFIGURATION c VAR_GLOBAL " + globals + "END_VAR RESOURCE r ON plc TASK t (INTERVAL := T#10ms, PRIORITY := 1); PROGRAM one WITH t : p; END_RESOURCE END_CONFIGURATION"
}

const tenMs = 10000000

func number(k api.Kind, n int) api.Value {
	v, _ := value.Int(k, n)
	return v
}

// pick is one of several things, by chance.
func pick[T any](r *rand.Rand, l ...T) T { return l[r.Intn(len(l))] }
