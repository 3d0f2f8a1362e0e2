package samples_test

import (
	"math/rand"
	"slices"
	"strings"
	"testing"

	"relay/api"
	"relay/decl"
	"relay/layout"
	"relay/samples"
	"relay/st"
	"relay/value"
)

// What is written hangs on the picks alone, can be read, and has cells; of many projects some have each word that bodies may have. (That it has no type fault the tests of core tell.)
func TestSources(t *testing.T) {
	all := ""
	for seed := range int64(300) {
		sources := samples.Sources(rand.New(rand.NewSource(seed)).Intn)
		if !slices.Equal(sources, samples.Sources(rand.New(rand.NewSource(seed)).Intn)) {
			t.Fatal(seed)
		}
		p, source, err := decl.Parse(sources)
		if err != nil {
			t.Fatal(sources[source], err)
		}
		for _, u := range p.Pous {
			if _, err := st.Parse(u.Text); err != nil {
				t.Fatal(u.Text, err)
			}
			all += u.Text
		}
		if _, _, err := layout.Cells(p); err != nil || len(p.Runs) == 0 {
			t.Fatal(sources, err)
		}
	}
	for _, word := range strings.Fields("IF ELSIF ELSE CASE FOR BY WHILE REPEAT EXIT RETURN := => MOD AND OR XOR NOT = <> < <= > >= + - * / SEL MUX LIMIT MAX ABS SHL LEN MID CONCAT TO_ _TO_ MOVE F0( I0( I0. [") {
		if !strings.Contains(all, word) {
			t.Error(word)
		}
	}
}

// Projects of all languages hang on the picks alone, and are read; some have each thing that bodies and configurations may have. (That they have no fault the tests of plc tell.)
func TestProjects(t *testing.T) {
	all, langs := "", map[int]int{}
	for seed := range int64(400) {
		sources := samples.Projects(rand.New(rand.NewSource(seed)).Intn)
		if !slices.Equal(sources, samples.Projects(rand.New(rand.NewSource(seed)).Intn)) {
			t.Fatal(seed)
		}
		p, source, err := decl.Parse(sources)
		if err != nil {
			t.Fatal(sources[source], err)
		}
		for _, u := range p.Pous {
			langs[u.Lang]++
		}
		all += strings.Join(sources, "\n")
	}
	for lang := api.LangST; lang <= api.LangSFC; lang++ {
		if langs[lang] < 100 {
			t.Error(langs)
		}
	}
	for _, word := range []string{
		"RETAIN", "AT %I", "AT %Q", "AT %M", "INTERVAL", "SINGLE", "PRIORITY := 2", "r1 : P", " WITH t1", "{ST}",
		"\nJMP X", "\nJMPC X", "\nJMPCN X", "\nX1:", "\nRETC", "\nCAL I", "\nCALC", "\nS ", "\nR ", "\nSTN ", "\nLDN ", "\nANDN", "\nADD(\n", "\n)", "\nNOT\n", "\nMAX ", "\nTO_", "\nGT ",
		"RUNG", "[ ", "| ", " !", " +", " -", "=> +", "=> -", "=> !", "NETWORK", "N1 : ", "NOT N", " => ",
		"INITIAL_STEP", "\nSTEP", "(N)", "(S)", "(P0)", "(SD, ", "(L, ", "FROM (", "TO (", ".X AND", ".T >=", "ACTION",
	} {
		if !strings.Contains(all, word) {
			t.Error(word)
		}
	}
}

// A script's entries are for the inputs of cells, and can be.
func TestScript(t *testing.T) {
	cells := []api.Cell{{Kind: api.KBool, Dir: 1, Addr: "%IX0.0"}, {Kind: api.KSint, Dir: 1, Addr: "%IB1"}, {Kind: api.KUint, Dir: 2, Addr: "%QW1"}, {Kind: api.KInt, Addr: "%MW1"}, {Kind: api.KWord, Dir: 1, Addr: "%IW2"}}
	r := rand.New(rand.NewSource(1))
	seen, times := map[string]int{}, map[int]int{}
	script := samples.Script(r.Intn, cells, 500)
	for _, e := range script {
		times[e.Advance]++
		for _, in := range e.Inputs {
			i := slices.IndexFunc(cells, func(c api.Cell) bool { return c.Addr == in.Addr && c.Dir == 1 })
			if i < 0 || value.Fits(api.Type{Kind: cells[i].Kind}, in.Value) != 0 {
				t.Fatal(in)
			}
			seen[in.Addr]++
		}
	}
	if len(script) != 500 || len(seen) != 3 || len(times) < 10 || times[0] == 0 {
		t.Error(len(script), seen, times)
	}
}

// Jumps lead to labels further on in their lists, which stand there once.
func TestWithJumps(t *testing.T) {
	jumps, conditional := 0, 0
	var look func(l []api.Stmt)
	look = func(l []api.Stmt) {
		for i, s := range l {
			ahead, behind := 0, 0
			for k, x := range l {
				if x.Op == api.StLabel && x.Name == s.Name {
					if k > i {
						behind++
					} else {
						ahead++
					}
				}
			}
			switch s.Op {
			case api.StJump:
				jumps++
				conditional += len(s.Exprs)
				if ahead != 0 || behind != 1 {
					t.Fatal(s.Name)
				}
			case api.StLabel:
				if ahead != 1 || behind != 0 {
					t.Fatal(s.Name)
				}
			}
			look(s.Body)
			look(s.Else)
		}
	}
	for seed := range int64(100) {
		r := rand.New(rand.NewSource(seed))
		p, _, err := decl.Parse(samples.Sources(r.Intn))
		if err != nil {
			t.Fatal(err)
		}
		for _, u := range p.Pous {
			l, _ := st.Parse(u.Text)
			before := st.Print(l)
			look(samples.WithJumps(r.Intn, l))
			if st.Print(l) != before {
				t.Fatal("changed")
			}
		}
	}
	if jumps < 1000 || conditional < 500 || conditional > jumps-100 {
		t.Error(jumps, conditional)
	}
}
