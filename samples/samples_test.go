package samples_test

import (
	"math/rand"
	"slices"
	"strings"
	"testing"

	"relay/decl"
	"relay/layout"
	"relay/samples"
	"relay/st"
)

// What is written hangs on the picks alone, can be read, and has cells; of many projects some have each word that bodies may have. (That it has no type fault the tests of core tell.)
func TestSources(t *testing.T) {
	all := ""
	for seed := range int64(300) {
		sources := samples.Sources(rand.New(rand.NewSource(seed)).Intn)
		if !slices.Equal(sources, samples.Sources(rand.New(rand.NewSource(seed)).Intn)) {
			t.Fatal(seed)
		}
		p, source, err := decl.Parse(sources)
		if err != nil {
			t.Fatal(sources[source], err)
		}
		for _, u := range p.Pous {
			if _, err := st.Parse(u.Text); err != nil {
				t.Fatal(u.Text, err)
			}
			all += u.Text
		}
		if _, _, err := layout.Cells(p); err != nil || len(p.Runs) == 0 {
			t.Fatal(sources, err)
		}
	}
	for _, word := range strings.Fields("IF ELSIF ELSE CASE FOR BY WHILE REPEAT EXIT RETURN := => MOD AND OR XOR NOT = <> < <= > >= + - * / SEL MUX LIMIT MAX ABS SHL LEN MID CONCAT TO_ _TO_ MOVE F0( I0( I0. [") {
		if !strings.Contains(all, word) {
			t.Error(word)
		}
	}
}
