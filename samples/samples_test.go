package samples_test

import (
	"math/rand"
	"slices"
	"strings"
	"testing"

	"relay/api"
	"relay/decl"
	"relay/layout"
	"relay/samples"
	"relay/st"
)

// What is written hangs on the picks alone, can be read, and has cells; of many projects some have each word that bodies may have. (That it has no type fault the tests of core tell.)
func TestSources(t *testing.T) {
	all := ""
	for seed := range int64(300) {
		sources := samples.Sources(rand.New(rand.NewSource(seed)).Intn)
		if !slices.Equal(sources, samples.Sources(rand.New(rand.NewSource(seed)).Intn)) {
			t.Fatal(seed)
		}
		p, source, err := decl.Parse(sources)
		if err != nil {
			t.Fatal(sources[source], err)
		}
		for _, u := range p.Pous {
			if _, err := st.Parse(u.Text); err != nil {
				t.Fatal(u.Text, err)
			}
			all += u.Text
		}
		if _, _, err := layout.Cells(p); err != nil || len(p.Runs) == 0 {
			t.Fatal(sources, err)
		}
	}
	for _, word := range strings.Fields("IF ELSIF ELSE CASE FOR BY WHILE REPEAT EXIT RETURN := => MOD AND OR XOR NOT = <> < <= > >= + - * / SEL MUX LIMIT MAX ABS SHL LEN MID CONCAT TO_ _TO_ MOVE F0( I0( I0. [") {
		if !strings.Contains(all, word) {
			t.Error(word)
		}
	}
}

// Jumps lead to labels further on in their lists, which stand there once.
func TestWithJumps(t *testing.T) {
	jumps, conditional := 0, 0
	var look func(l []api.Stmt)
	look = func(l []api.Stmt) {
		for i, s := range l {
			ahead, behind := 0, 0
			for k, x := range l {
				if x.Op == api.StLabel && x.Name == s.Name {
					if k > i {
						behind++
					} else {
						ahead++
					}
				}
			}
			switch s.Op {
			case api.StJump:
				jumps++
				conditional += len(s.Exprs)
				if ahead != 0 || behind != 1 {
					t.Fatal(s.Name)
				}
			case api.StLabel:
				if ahead != 1 || behind != 0 {
					t.Fatal(s.Name)
				}
			}
			look(s.Body)
			look(s.Else)
		}
	}
	for seed := range int64(100) {
		r := rand.New(rand.NewSource(seed))
		p, _, err := decl.Parse(samples.Sources(r.Intn))
		if err != nil {
			t.Fatal(err)
		}
		for _, u := range p.Pous {
			l, _ := st.Parse(u.Text)
			before := st.Print(l)
			look(samples.WithJumps(r.Intn, l))
			if st.Print(l) != before {
				t.Fatal("changed")
			}
		}
	}
	if jumps < 1000 || conditional < 500 || conditional > jumps-100 {
		t.Error(jumps, conditional)
	}
}
