package desk_test

import (
	"math/rand"
	"slices"
	"strings"
	"testing"

	"relay/api"
	"relay/plc"
	"relay/samples"
)

const aConfig = "CONFIGURATION c RESOURCE r ON plc PROGRAM q : p; END_RESOURCE END_CONFIGURATION"

// P25.1: source puts a further source, of all that stands behind the blank, a byte 10 for each ^; it tells how many there are.
func TestSource(t *testing.T) {
	says(t, "source a\nsource b\nsource a", "source 1", "source 2", "source 3")
	says(t, "source ", "source 1")
	says(t, "source  \nsource ^^\nsource  a  b ", "source 1", "source 2", "source 3")
	ends(t, "source", 1, api.ErrCommand)
	ends(t, "source\nsource a", 1, api.ErrCommand)
	// Places count each ^ as a byte, and so each blank.
	for _, x := range []struct{ text, want string }{
		{"PROGRAM p x := 1; END_PROGRAM " + aConfig, "at 0 10 150"},
		{" PROGRAM  p x := 1; END_PROGRAM " + aConfig, "at 0 12 150"},
		{"^^^PROGRAM^p^x := 1; END_PROGRAM " + aConfig, "at 0 13 150"},
		{"PROGRAM p {IL}^LD 1^ST x^END_PROGRAM " + aConfig, "at 0 23 150"},
		{"", "at 0 0 240"},
	} {
		says(t, "source "+x.text+"\ncompile", "source 1", x.want)
		if _, faults := plc.Compile([]string{strings.ReplaceAll(x.text, "^", "\n")}); len(faults) != 1 || "at 0 "+digits(faults[0].Fault.At)+" "+digits(int(faults[0].Fault.Why)) != x.want {
			t.Error(x.text, faults)
		}
	}
	// What ends at a line's end in a source ends at a ^: lists, and remarks.
	says(t, "source PROGRAM p VAR a : INT; END_VAR {IL}^LD 5^ST a^END_PROGRAM TYPE t : INT; END_TYPE^// nothing ^ "+aConfig+"\ncompile", "image 1 1 0")
}

// P25.1: ErrLong of a source beyond MaxSources.
func TestTooManySources(t *testing.T) {
	script := "source PROGRAM p END_PROGRAM " + aConfig + "\n" + strings.Repeat("source \n", api.MaxSources-1)
	says(t, script+"compile", "source 16", "image 0 1 0")
	ends(t, script+"source ", 17, api.ErrLong)
	ends(t, script+"compile\nload\nsource x", 19, api.ErrLong)
	ends(t, script+"source", 17, api.ErrCommand)
}

// P25.1: compile tells how many cells, codes and tasks the image has.
func TestCompile(t *testing.T) {
	says(t, blinks+"compile", "image 1 1 1")
	says(t, divides+"compile", "image 5 2 2")
	says(t, everyKind+"compile", "image 20 1 0")
	says(t, divides+"compile\ncompile", "image 5 2 2", "image 5 2 2")
	says(t, "compile", "at 0 0 240")
	// A further source plays its part when it is compiled.
	says(t, "source PROGRAM p END_PROGRAM\ncompile\nsource "+aConfig+"\ncompile\nload", "at 0 0 240", "source 2", "image 0 1 0", "loaded")
	says(t, "source PROGRAM p END_PROGRAM "+aConfig+"\ncompile\nsource x\ncompile", "image 0 1 0", "source 2", "at 1 0 50")
}

// P25.1: of sources at fault compile tells each diagnostic, in order: source, place, number.
func TestFaultyCompile(t *testing.T) {
	says(t, "source PROGRAM p x := 1; END_PROGRAM "+aConfig+"\nsource FUNCTION f : INT f := ; END_FUNCTION\nsource PROGRAM q 1 END_PROGRAM\ncompile", "at 1 22 50 2 10 50")
	says(t, "source x\nsource y\ncompile", "at 0 0 50")
	sources := []string{"source PROGRAM p 1 END_PROGRAM " + aConfig}
	for range api.MaxSources - 1 {
		sources = append(sources, "source PROGRAM p"+digits(len(sources))+" 1 END_PROGRAM")
	}
	want := "at 0 10 50"
	for i := 1; i < api.MaxSources; i++ {
		want += " " + digits(i) + " " + digits(10+len(digits(i))) + " 50"
	}
	says(t, strings.Join(sources, "\n")+"\ncompile", want)
}

// P25.1: behind sources at fault there is no image, and no resource.
func TestNothingBehindFaults(t *testing.T) {
	at := divides + running + tick0 + "source x\ncompile\n"
	says(t, at, "source 2", "at 1 0 50")
	for _, line := range []string{"load", "start", "stop", "cold", "warm", "tick 0", "set %IX0.0 TRUE", "outputs", "cell 0", "mean"} {
		ends(t, at+line, 8, api.ErrThing)
	}
	says(t, at+"compile", "at 1 0 50", "at 1 0 50")
}

// P25.1: compile answers what plc.Compile does, of sources with lines and with faults, by chance.
func TestCompiles(t *testing.T) {
	r := rand.New(rand.NewSource(1))
	images, faulty := 0, 0
	for range 300 {
		sources := samples.Projects(r.Intn)
		if r.Intn(2) == 0 {
			sources = spoiled(r, sources)
		}
		m, faults := plc.Compile(sources)
		want := "image " + digits(len(m.Cells)) + " " + digits(len(m.Codes)) + " " + digits(len(m.Jobs))
		if len(faults) > 0 {
			want = "at"
			faulty++
		} else {
			images++
		}
		for _, f := range faults {
			want += " " + digits(f.Source) + " " + digits(f.Fault.At) + " " + digits(int(f.Fault.Why))
		}
		says(t, sourceLines(sources)+"compile", want)
	}
	if images < 150 || faulty < 50 {
		t.Error(images, faulty)
	}
}

// spoiled is sources of which some are without a few of their bytes.
func spoiled(r *rand.Rand, sources []string) []string {
	l := slices.Clone(sources)
	for i, s := range l {
		if s != "" && r.Intn(2) == 0 {
			from := r.Intn(len(s))
			l[i] = s[:from] + s[min(len(s), from+r.Intn(4)):]
		}
	}
	return l
}
