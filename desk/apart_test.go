package desk_test

import (
	"slices"
	"strings"
	"sync"
	"testing"

	"relay/api"
	"relay/desk"
)

// P25.4: a script's answers begin with those of each of its beginnings, line by line.
func TestBeginnings(t *testing.T) {
	for _, script := range []string{
		divides + running + tick0 + "set %IW1 3\n" + tick10 + "outputs\n\ncell 4\ncell 5\nset %IW1 0\n" + tick10 + "mean\nwarm\nstart\n\n" + tick20 + "outputs\nmean\nload\nmean\nsource x\ncompile\nsource y\ncompile",
		blinks + running + "\n" + tick0 + "outputs\n" + tick10 + "mean\nstop\nmean\ncold\n" + tick10 + "outputs",
		"source x\ncompile\n\nsource \ncompile\nsource a^b\ncompile",
	} {
		lines, answers := strings.Split(script, "\n"), run(t, script)
		n := 0
		for i := range lines {
			if lines[i] != "" {
				n++
			}
			for _, end := range []string{"", "\n"} {
				if l := run(t, strings.Join(lines[:i+1], "\n")+end); !slices.Equal(l, answers[:n]) {
					t.Errorf("%q: %q, not %q", lines[:i+1], l, answers[:n])
				}
			}
		}
		if n != len(answers) {
			t.Error(n, answers)
		}
	}
}

// P25.4: runs of a script answer the same, also when they are made side by side with others.
func TestSideBySide(t *testing.T) {
	scripts := []string{
		divides + running + tick0 + "set %IW1 0\n" + tick20 + "mean\ncold\noutputs",
		blinks + running + tick0 + "outputs\n" + tick10 + "mean\ncell 0",
		"source x\ncompile\ncompile",
	}
	var want [][]string
	for _, script := range scripts {
		want = append(want, run(t, script))
	}
	var all sync.WaitGroup
	for i := range 30 {
		all.Add(1)
		go func() {
			defer all.Done()
			if l, err := desk.Run(scripts[i%3]); err != nil || !slices.Equal(l, want[i%3]) {
				t.Errorf("%q: %q %v, not %q", scripts[i%3], l, err, want[i%3])
			}
			if _, err := desk.Run("tick 0"); err != (api.Fault{At: 1, Why: api.ErrThing}) {
				t.Error(err)
			}
		}()
	}
	all.Wait()
	// What was told is the caller's own.
	l := run(t, scripts[1])
	clear(l[:cap(l)])
	says(t, scripts[1], want[1]...)
}

// A script of whatever bytes ends with answers or with an error of the desk's own.
func TestWhateverBytes(t *testing.T) {
	for _, script := range []string{"\x00", "source \xff\xfe\ncompile", "source \x00\ncompile\nload", "\xff\xff\n", "source é\r\ncompile", strings.Repeat("source \n", 17), strings.Repeat("compile\n", 200), "source " + strings.Repeat("(", 60000) + "\ncompile", "source " + strings.Repeat("^", 60000) + "\ncompile"} {
		l, err := desk.Run(script)
		if fault, is := err.(api.Fault); err != nil && (!is || len(l) > 0 || fault.At < 1 || fault.Why != api.ErrCommand && fault.Why != api.ErrThing && fault.Why != api.ErrLong) {
			t.Errorf("%.50q: %q %v", script, l, err)
		}
	}
}
