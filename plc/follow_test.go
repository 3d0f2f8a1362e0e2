package plc_test

import (
	"math/rand"
	"slices"
	"strings"
	"testing"

	"relay/api"
	"relay/image"
	"relay/plc"
)

// P24.10: sources without words, anywhere among the others, change no image, nor what is played; only the numbers of sources at fault.
func TestSourcesWithoutWords(t *testing.T) {
	blanks := []string{"", " ", "\n\r\t ", "(* PROGRAM p *)", "// nothing", "// nothing\n(* * *) "}
	several := 0
	each(200, func(r *rand.Rand, sources []string) {
		bad := spoiled(t, r, sources)
		m := compiled(t, sources...)
		_, faults := plc.Compile(bad)
		l := slices.Clone(sources)
		for len(l) < api.MaxSources && r.Intn(5) > 0 {
			i := r.Intn(len(l) + 1)
			blank := pick(r, blanks...)
			l, bad = slices.Insert(l, i, blank), slices.Insert(bad, i, blank)
			for k := range faults {
				// A configuration that is not there has no source of its own.
				if faults[k].Source >= i && faults[k].Fault.Why != api.ErrConfig {
					faults[k].Source++
				}
			}
		}
		if len(l) > len(sources) {
			several++
		}
		if !image.Same(compiled(t, l...), m) {
			t.Fatalf("%q", l)
		}
		if got, more := plc.Compile(bad); !slices.Equal(more, faults) || (len(more) == 0) == isEmptyImage(got) {
			t.Fatalf("%q: %v, not %v", bad, more, faults)
		}
	})
	if several < 100 {
		t.Error(several)
	}
	l := slices.Repeat([]string{" "}, api.MaxSources-2)
	compiled(t, append(append(slices.Clone(l), plain), config)...)
}

// P24.6: any texts have an image that may be, and no diagnostics, or none and at least one, of a source from 0 to MaxSources.
func TestImageOrReason(t *testing.T) {
	r := rand.New(rand.NewSource(9))
	words := strings.Fields("PROGRAM p END_PROGRAM CONFIGURATION c RESOURCE r ON plc END_RESOURCE END_CONFIGURATION VAR END_VAR a : INT ; := 1 ( ) {IL} {LD} {FBD} {SFC} LD a ST a RUNG => q NETWORK END_NETWORK INITIAL_STEP END_STEP TASK t WITH ? 12b 'x' FUNCTION FUNCTION_BLOCK b")
	images := 0
	for range 3000 {
		var l []string
		for range r.Intn(19) {
			text := ""
			for range r.Intn(12) {
				text += words[r.Intn(len(words))] + pick(r, " ", " ", "\n", "")
			}
			l = append(l, pick(r, text, text, plain, config, "FUNCTION f : INT END_FUNCTION", ""))
		}
		m, faults := plc.Compile(l)
		if _, _, why := image.Check(m); (len(faults) == 0) != (why == api.OK) || len(faults) > 0 && !isEmptyImage(m) {
			t.Fatalf("%q: %v %v", l, faults, why)
		}
		for i, d := range faults {
			if d.Source < 0 || d.Source > api.MaxSources || d.Fault.Why == api.OK || i > 0 && faults[i-1].Source >= d.Source {
				t.Fatalf("%q: %v", l, faults)
			}
		}
		if len(faults) == 0 {
			images++
		}
	}
	if images < 20 {
		t.Error(images)
	}
}
