package desk_test

import (
	"errors"
	"slices"
	"strings"
	"testing"

	"relay/api"
	"relay/desk"
)

// plainWords is the commands of one word; those from the third on want a resource.
func plainWords() []string {
	return []string{"compile", "load", "start", "stop", "cold", "warm", "outputs", "mean"}
}

// P25.1: ErrCommand of whatever is no command.
func TestNoCommands(t *testing.T) {
	for _, line := range []string{"jump", "Compile", "COMPILE", "compil", "compiles", "sources a", "error", "1", "^", ".", "source\ta", "compile\r", "compile\t", "\x00", "é", "#", "image 1 1 1", "tick\u00a00", " ", "  ", "\t"} {
		ends(t, line, 1, api.ErrCommand)
		ends(t, divides+running+line, 5, api.ErrCommand)
	}
}

// P25.1: ErrCommand of too few words, and of too many; a blank too many parts two words, one of them without bytes.
func TestWords(t *testing.T) {
	for _, word := range plainWords() {
		for _, line := range []string{word + " ", " " + word, word + " a", word + " 0", word + "  ", word + " " + word} {
			ends(t, divides+running+line, 5, api.ErrCommand)
		}
	}
	for _, line := range []string{
		"source", " source a", "  source a",
		"tick", "tick ", "tick  0", " tick 0", "tick 0 ", "tick 0 0", "tick 0 1 2", "tick\t0",
		"cell", "cell ", "cell  0", " cell 0", "cell 0 ", "cell 0 0",
		"set", "set ", "set %IX0.0", "set %IX0.0 TRUE ", " set %IX0.0 TRUE", "set %IX0.0  TRUE", "set  %IX0.0 TRUE", "set %IX0.0 TRUE %IW1 1", "set %IX0.0=TRUE",
	} {
		ends(t, divides+running+line, 5, api.ErrCommand)
	}
	// An address, a value without bytes are words, too.
	ends(t, divides+running+"set  TRUE", 5, api.ErrThing)
	says(t, divides+running+"set %IX0.0 ", "error 5")
	ends(t, divides+running+"set %IX0.0  ", 5, api.ErrCommand)
}

// P25.1: ErrCommand of words that are no numbers where a number is wanted.
func TestNumbers(t *testing.T) {
	for _, word := range []string{"", "00", "01", "-0", "-00", "-01", "+0", "+1", "-", "--1", "1-", "1.0", "1e3", "0x10", "16#10", "1_000", "a", "TRUE", "T#10ms", "1000000000000000", "-1000000000000000", "0000000000000001", "9223372036854775808", "99999999999999999999999", "١", "1\t", "1\r"} {
		for _, name := range []string{"tick ", "cell "} {
			ends(t, divides+running+name+word, 5, api.ErrCommand)
		}
		says(t, divides+running+"set %IW1 "+word, "error 5")
	}
	says(t, divides+running+"tick 7\ntick 999999999999\ntick 100000000000000", "ran FAST SLOW", "ran FAST SLOW", "error 231")
	for _, word := range []string{"-1", "999999999999999", "-999999999999999", "-100000000000000"} {
		says(t, divides+running+"cell "+word, "error 1")
	}
	says(t, divides+running+"tick 999999999999999\ntick -999999999999999", "error 231", "error 231")
}

// P25.1: what can't be read is told ahead of what is not there, and that ahead of what a call tells.
func TestOrderOfErrors(t *testing.T) {
	for _, line := range []string{"load a", "start ", "stop 1", "tick", "tick x", "tick 01", "cell", "cell -0", "set", "set %IX0.0", "set a b c", "outputs 1", "mean mean"} {
		ends(t, line, 1, api.ErrCommand)
	}
	for _, line := range []string{"load", "start", "stop", "cold", "warm", "tick 0", "tick -1", "cell 0", "cell -1", "set %IX0.0 TRUE", "set %IX0.0 x", "set a b", "outputs", "mean"} {
		ends(t, line, 1, api.ErrThing)
		ends(t, divides+line, 2, api.ErrThing)
		if line == "load" {
			continue
		}
		ends(t, divides+"compile\n"+line, 3, api.ErrThing)
		// With another image there is no resource until it is loaded.
		ends(t, divides+running+"compile\n"+line, 6, api.ErrThing)
	}
	// The first line at fault is told, whatever stands behind it.
	ends(t, "\n\njump\nload\n", 3, api.ErrCommand)
	ends(t, "\nload\njump\n", 2, api.ErrThing)
	ends(t, divides+running+"cell 99\nset %IX0.0 x\n\ntick 0\nset %IX9.0 TRUE\n", 9, api.ErrThing)
}

// Lines without bytes say nothing; the last one perhaps has no byte 10.
func TestLines(t *testing.T) {
	want := run(t, divides+running+tick0+"outputs")
	for _, script := range []string{
		divides + running + tick0 + "outputs\n",
		divides + running + tick0 + "outputs\n\n\n",
		"\n\n" + strings.ReplaceAll(divides+running+tick0+"outputs\n", "\n", "\n\n\n"),
	} {
		if l := run(t, script); !slices.Equal(l, want) {
			t.Errorf("%q: %q, not %q", script, l, want)
		}
	}
	for _, script := range []string{"", "\n", "\n\n\n\n"} {
		if l := run(t, script); len(l) > 0 {
			t.Errorf("%q: %q", script, l)
		}
	}
	says(t, "compile", "at 0 0 240")
	ends(t, "\n\n\nload", 4, api.ErrThing)
}

// P25.1: ErrLong at 0 of a script of more than MaxSource bytes, ahead of all else.
func TestTooLong(t *testing.T) {
	rest := api.MaxSource - len(divides+running)
	says(t, divides+running+strings.Repeat("\n", rest), "running")
	ends(t, divides+running+strings.Repeat("\n", rest+1), 0, api.ErrLong)
	ends(t, "jump\n"+strings.Repeat("\n", api.MaxSource-5), 1, api.ErrCommand)
	ends(t, "jump\n"+strings.Repeat("\n", api.MaxSource-4), 0, api.ErrLong)
	ends(t, strings.Repeat("\n", 3*api.MaxSource), 0, api.ErrLong)
	says(t, "source "+strings.Repeat(" ", api.MaxSource-7), "source 1")
	ends(t, "source "+strings.Repeat(" ", api.MaxSource-6), 0, api.ErrLong)
}

// Errors are faults, found by errors.As and errors.Is.
func TestFaults(t *testing.T) {
	_, err := desk.Run("\nload")
	var fault api.Fault
	if !errors.As(err, &fault) || fault != (api.Fault{At: 2, Why: api.ErrThing}) || !errors.Is(err, api.ErrThing) || errors.Is(err, api.ErrCommand) {
		t.Error(err)
	}
}
