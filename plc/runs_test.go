package plc_test

import (
	"math/rand"
	"slices"
	"testing"

	"relay/api"
	"relay/image"
	"relay/plc"
	"relay/samples"
	"relay/sched"
	"relay/value"
)

// echo is sources whose output is their input, and one more than it at last.
func echo() []string {
	return []string{"PROGRAM p VAR_EXTERNAL i, o : INT; END_VAR o := i; END_PROGRAM PROGRAM next VAR_EXTERNAL o : INT; END_VAR o := o + 1; END_PROGRAM",
		"CONFIGURATION c VAR_GLOBAL i AT %IW0 : INT; o AT %QW0 : INT; END_VAR RESOURCE r ON plc TASK t (INTERVAL := T#10ns, PRIORITY := 1); TASK u (INTERVAL := T#20ns, PRIORITY := 2); " +
			"PROGRAM a WITH t : p; PROGRAM b WITH u : next; END_RESOURCE END_CONFIGURATION"}
}

func word(n int) api.Input { return api.Input{Addr: "%IW0", Value: whole(api.KInt, n)} }

func whole(k api.Kind, n int) api.Value { return api.Value{Kind: k, Bits: uint64(n)} }

// P24.4, P24.5: a report an entry, of a resource that was started at 0.
func TestPlay(t *testing.T) {
	m := compiled(t, echo()...)
	script := []api.Entry{{Inputs: []api.Input{word(5)}}, {Advance: 9}, {Advance: 1}, {Advance: 35, Inputs: []api.Input{word(1), word(7)}}, {Advance: 10, Inputs: []api.Input{word(32767)}}, {Advance: 5}, {Advance: 20}, {Advance: 7}}
	report := func(n, mode, steps int, over []int, ran ...string) api.Report {
		return api.Report{Ran: ran, Outputs: []api.Input{{Addr: "%QW0", Value: whole(api.KInt, n)}}, Mode: mode, Over: over, Steps: steps}
	}
	want := []api.Report{
		report(6, api.ModeRun, 8, []int{0, 0}, "T", "U"), report(6, api.ModeRun, 0, []int{0, 0}), report(5, api.ModeRun, 3, []int{0, 0}, "T"),
		report(8, api.ModeRun, 8, []int{2, 1}, "T", "U"), report(32767, api.ModeRun, 3, []int{2, 1}, "T"), report(32767, api.ModeFault, 6, []int{2, 1}, "T", "U"),
		report(32767, api.ModeFault, 0, []int{2, 1}), report(32767, api.ModeFault, 0, []int{2, 1}),
	}
	want[5].Fault, want[5].In = api.FaultOver, "U"
	got := played(t, m, script)
	if !sameReports(got, want) {
		t.Error(got, want)
	}
	for i, x := range got {
		if x.Steps != want[i].Steps {
			t.Error(i, x)
		}
	}
	mean := meant(t, echo(), script)
	if !sameReports(mean, want) {
		t.Error(mean)
	}
	for _, x := range mean {
		if x.Steps != 0 {
			t.Error(x)
		}
	}
	if l := played(t, m, nil); len(l) != 0 {
		t.Error(l)
	}
	if l := meant(t, echo(), []api.Entry{}); len(l) != 0 {
		t.Error(l)
	}
}

// P24.4: sched.New's error, or the first entry's; no reports then. P24.5: the entry's number, of no source.
func TestEntriesAtFault(t *testing.T) {
	m := compiled(t, echo()...)
	good := api.Entry{Advance: 10, Inputs: []api.Input{word(32767)}}
	late, odd := api.Entry{Advance: api.MaxAdvance + 1}, api.Entry{Advance: 1, Inputs: []api.Input{word(1), {Addr: "%IW1", Value: whole(api.KInt, 1)}}}
	for _, x := range []struct {
		script []api.Entry
		at     int
		why    api.Errno
	}{
		{[]api.Entry{late}, 0, api.ErrTime}, {[]api.Entry{odd}, 0, api.ErrInput}, {[]api.Entry{good, odd, late}, 1, api.ErrInput}, {[]api.Entry{good, good, good, late, odd}, 3, api.ErrTime},
		{[]api.Entry{{Advance: -1}}, 0, api.ErrTime}, {[]api.Entry{good, {Inputs: []api.Input{{Addr: "%IW0", Value: value.Bool(true)}}}}, 1, api.ErrInput}, {[]api.Entry{{Inputs: []api.Input{{Addr: "%QW0", Value: whole(api.KInt, 1)}}}}, 0, api.ErrInput},
	} {
		l, why := plc.Play(m, x.script)
		if why != x.why || len(l) != 0 {
			t.Error(x, l, why)
		}
		l, faults := plc.Mean(echo(), x.script)
		if want := []api.Diag{diag(-1, x.at, x.why)}; !slices.Equal(faults, want) || len(l) != 0 {
			t.Error(x, l, faults)
		}
	}
	for _, spoil := range []func(m *api.Image){
		func(m *api.Image) { m.Name = "" }, func(m *api.Image) { m.Cells[0].Kind = 0 }, func(m *api.Image) { m.Codes[0].Ops = nil }, func(m *api.Image) { m.Jobs[1].Name = "T" },
	} {
		m := compiled(t, echo()...)
		spoil(&m)
		_, _, want := image.Check(m)
		l, why := plc.Play(m, []api.Entry{late})
		if why != want || why == api.OK || len(l) != 0 {
			t.Error(l, why, want)
		}
	}
	// Sources that are at fault come ahead of entries that are.
	for _, sources := range [][]string{{plain}, {plain, config, "PROGRAM r ) END_PROGRAM"}, {chain("d", api.MaxCalls), configOf("d")}} {
		_, want := plc.Compile(sources)
		l, faults := plc.Mean(sources, []api.Entry{late})
		if len(want) != 1 || !slices.Equal(faults, want) || len(l) != 0 {
			t.Error(faults, want)
		}
	}
}

// A bound that is too small stops a task that is played; what it means has none.
func TestBoundOfPlay(t *testing.T) {
	m := compiled(t, echo()...)
	m.Jobs[0].Bound--
	l := played(t, m, []api.Entry{{}})
	if l[0].Fault != api.FaultSteps || l[0].In != "T" || l[0].Steps != m.Jobs[0].Bound {
		t.Error(l)
	}
}

// P24.5: what takes more rules than 2^26 stops the meaning; a machine, for which all is known ahead, has few steps.
func TestMostRules(t *testing.T) {
	ones := "1"
	for range 1100 {
		ones += " + 1"
	}
	sources := []string{"PROGRAM p VAR n, i : DINT; END_VAR FOR i := 1 TO 32768 DO n := " + ones + "; END_FOR; END_PROGRAM", config}
	l := meant(t, sources, make([]api.Entry, 1))
	if l[0].Fault != api.FaultSteps || l[0].In != "T" || l[0].Steps != 0 {
		t.Error(l)
	}
	sources[0] = "PROGRAM p VAR n, i : DINT; END_VAR FOR i := 1 TO 16384 DO n := " + ones + "; END_FOR; END_PROGRAM"
	if l := meant(t, sources, make([]api.Entry, 1)); l[0].Fault != 0 {
		t.Error(l)
	}
}

// P24.8, P24.9, P1, P3, P7: what is played is what is meant, in all languages, with faults and without, within its bounds; also where an entry can't be.
func TestAsItMeans(t *testing.T) {
	faults, ran, over, langs := map[int]int{}, 0, 0, map[int]int{}
	each(600, func(r *rand.Rand, sources []string) {
		m := compiled(t, sources...)
		p, _, _ := plc.Front(sources)
		for _, u := range p.Pous {
			langs[u.Lang]++
		}
		script := samples.Script(r.Intn, m.Cells, 8)
		got, want := played(t, m, script), meant(t, sources, script)
		if !sameReports(got, want) || len(got) != len(script) {
			t.Fatalf("%q: %v, not %v", sources, got, want)
		}
		checkBounded(t, m, got)
		for _, x := range got {
			faults[x.Fault]++
			ran += len(x.Ran)
			for _, n := range x.Over {
				over += n
			}
		}
		at := r.Intn(len(script) + 1)
		script = slices.Insert(script, at, pick(r, api.Entry{Advance: -1}, api.Entry{Inputs: []api.Input{{Addr: "%QX0.0", Value: value.Bool(true)}}}))
		_, why := plc.Play(m, script)
		l, odd := plc.Mean(sources, script)
		if want := []api.Diag{diag(-1, at, why)}; why == api.OK || len(l) != 0 || !slices.Equal(odd, want) {
			t.Fatal(why, odd)
		}
	})
	for fault := range api.FaultConvert + 1 {
		if faults[fault] == 0 {
			t.Error(fault, faults)
		}
	}
	for lang := api.LangST; lang <= api.LangSFC; lang++ {
		if langs[lang] < 100 {
			t.Error(langs)
		}
	}
	if ran < 3000 || over < 3000 {
		t.Error(ran, over)
	}
}

// Play is a resource of sched that is started and given the entries; a standby that is handed the same has the same (P10).
func TestPlayIsSched(t *testing.T) {
	each(100, func(r *rand.Rand, sources []string) {
		m := compiled(t, sources...)
		script := samples.Script(r.Intn, m.Cells, 6)
		x, _ := sched.New(m)
		y, _ := sched.New(m)
		x.Start()
		y.Start()
		for i, want := range played(t, m, script) {
			a, _ := x.Entry(script[i].Advance, script[i].Inputs)
			b, _ := y.Entry(script[i].Advance, script[i].Inputs)
			if !sameReports([]api.Report{a, b}, []api.Report{want, want}) || a.Steps != want.Steps || !slices.Equal(x.Cells(), y.Cells()) {
				t.Fatal(a, b, want)
			}
		}
	})
}
