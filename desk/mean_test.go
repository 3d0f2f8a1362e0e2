package desk_test

import (
	"math/rand"
	"slices"
	"strings"
	"testing"

	"relay/api"
	"relay/samples"
)

// P25.2: mean answers error 230, unless just one start was made since the load, or since a cold at time 0, ahead of all ticks, and no stop or warm.
func TestMean(t *testing.T) {
	fails, later := "set %IW1 0\n"+tick0, "set %IW1 0\n"+tick20
	for _, x := range []struct{ script, want string }{
		{"", "error 230"},
		{"start\n", "same"},
		{"start\n" + tick0, "same"},
		{"start\n" + tick10 + tick0 + tick20, "same"},
		{"start\nset %IX0.0 TRUE\nset %IW1 -9\n" + tick10 + "set %IW1 3\nset %IW1 4\n" + tick10, "same"},
		{"set %IW1 7\nstart\n" + tick10, "same"},
		{"start\nset %IW1 7\n", "same"},
		// A fault, and ticks behind it.
		{"start\n" + tick10 + later, "same"},
		{"start\n" + fails + tick10 + "set %IW1 5\n" + tick10, "same"},
		// What has an error plays no part.
		{"start\nstart\n" + tick10, "same"},
		{"stop\nstart\n" + tick10, "same"},
		{"start\ncold\nwarm\n" + tick10, "same"},
		{"tick -1\nstart\ntick -1\n" + tick10 + "tick 1099511627777\n" + tick10, "same"},
		{"start\nset %IW1 7\ntick -1\n" + tick10 + "tick -1\n" + tick20, "same"},
		{"start\n" + fails + "start\nstop\n" + tick10, "same"},
		// A tick ahead of the start.
		{tick0, "error 230"},
		{tick0 + "start\n", "error 230"},
		{tick0 + "start\n" + tick10, "error 230"},
		{tick10 + "start\n" + tick10, "error 230"},
		// A stop, a second start, a warm.
		{"start\nstop\n", "error 230"},
		{"start\n" + tick10 + "stop\n" + tick10, "error 230"},
		{"start\nstop\nstart\n" + tick10, "error 230"},
		{"warm\n", "error 230"},
		{"warm\nstart\n" + tick10, "error 230"},
		{"start\nstop\nwarm\nstart\n" + tick10, "error 230"},
		{"start\n" + fails + "warm\n", "error 230"},
		{"start\n" + fails + "warm\nstart\n" + tick10, "error 230"},
		// A cold at time 0 is as a load is.
		{"cold\n", "error 230"},
		{"cold\nstart\n" + tick10, "same"},
		{"cold\ncold\nstart\n" + tick10, "same"},
		{tick0 + "cold\nstart\n" + tick10, "same"},
		{"warm\ncold\nstart\n" + tick10, "same"},
		{"start\nstop\ncold\nstart\n" + tick10, "same"},
		{"start\n" + tick0 + "stop\ncold\n", "error 230"},
		{"start\n" + tick0 + tick0 + "stop\ncold\nstart\n" + tick10, "same"},
		{"start\n" + tick0 + "stop\nwarm\nstart\n" + tick0 + "stop\ncold\nstart\n" + tick0 + tick10, "same"},
		{"start\n" + fails + "cold\n", "error 230"},
		{"start\n" + fails + "cold\n" + tick0, "error 230"},
		{"start\n" + fails + "cold\nstart\n" + tick10, "same"},
		{"start\n" + fails + "cold\nset %IW1 5\nstart\n" + tick10, "same"},
		{"cold\nstart\nstop\n", "error 230"},
		{"cold\n" + tick0 + "start\n", "error 230"},
		{"cold\nwarm\nstart\n", "error 230"},
		// A cold at a later time is none.
		{tick10 + "cold\nstart\n" + tick10, "error 230"},
		{"start\n" + tick10 + "stop\ncold\nstart\n" + tick10, "error 230"},
		{"start\n" + tick10 + later + "cold\nstart\n" + tick10, "error 230"},
		// But if nothing else was done, what the resource told is what is held against the meaning, which knows nothing of a cold.
		{"start\n" + tick10 + tick10 + later + "cold\n", "same"},
		{"start\n" + tick10 + tick10 + later + "cold\n" + tick10, "other"},
	} {
		says(t, divides+loaded+x.script+"mean", x.want)
		says(t, divides+loaded+x.script+"mean\nmean\nmean", x.want, x.want, x.want)
		// Asking changes nothing.
		rest := x.script + "outputs\n" + tick10 + "outputs\n"
		asked := divides + loaded + strings.ReplaceAll(rest, "\n", "\nmean\n")
		if got, want := without(run(t, asked)), without(run(t, divides+loaded+rest)); !slices.Equal(got, want) {
			t.Errorf("%q: %q, not %q", asked, got, want)
		}
		// A load makes all that was done nothing.
		says(t, divides+loaded+x.script+"load\nmean\nstart\n"+tick10+"mean", "error 230", "running", "ran FAST SLOW", "same")
	}
}

// without is answers without those that mean may tell.
func without(l []string) []string {
	return slices.DeleteFunc(l, func(answer string) bool { return answer == "same" || answer == "other" || answer == "error 230" })
}

// P25.2: mean is of the sources that the image came of, whatever was put behind compile.
func TestMeanOfSources(t *testing.T) {
	at := blinks + running + tick0
	says(t, at+"source nonsense\nmean", "source 3", "same")
	says(t, at+"source nonsense\n"+tick10+"mean", "ran T", "same")
	says(t, blinks+"compile\nsource x\nload\nstart\n"+tick10+"mean", "ran T", "same")
	says(t, at+"source FUNCTION f : INT f := 1; END_FUNCTION\ncompile\nload\nstart\n"+tick0+"mean", "image 2 2 1", "loaded", "running", "ran T", "same")
	ends(t, at+"source nonsense\ncompile\nmean", 9, api.ErrThing)
}

// someInputs is sets and ticks by chance, some of which have errors.
func someInputs(r *rand.Rand, m *model, n int) string {
	script := ""
	for range n {
		if l := m.inputCells(); r.Intn(2) == 0 && len(l) > 0 {
			c := m.image.Cells[pick(r, l...)]
			script += "set " + c.Addr + " " + someWord(r, c) + "\n"
			continue
		}
		script += "tick " + pick(r, "0", "1000000", "3000000", "10000000", "12345678", "-1", "1099511627776", "1099511627777") + "\n"
	}
	return script
}

// P25.3: behind compile, load, start and any sets and ticks mean answers same.
func TestMeant(t *testing.T) {
	ran, failed, wrong := 0, 0, 0
	for seed := range 500 {
		r := rand.New(rand.NewSource(int64(seed)))
		sources := samples.Projects(r.Intn)
		script := sourceLines(sources) + running + someInputs(r, modelOf(t, sources), 14) + "mean"
		l := run(t, script)
		if l[len(l)-1] != "same" {
			t.Errorf("%q: %q", script, l)
		}
		for _, answer := range l {
			switch {
			case strings.HasPrefix(answer, "ran T"):
				ran++
			case strings.HasPrefix(answer, "failed "):
				failed++
			case answer == "error 231":
				wrong++
			}
		}
	}
	if ran < 500 || failed < 50 || wrong < 100 {
		t.Error(ran, failed, wrong)
	}
}
