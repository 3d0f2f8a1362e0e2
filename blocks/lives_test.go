package blocks_test

import (
	"math/rand"
	"testing"

	"relay/api"
)

// What follows over lives of many steps: told by what went in since the beginning, not by cells.

func truth(is bool) int {
	if is {
		return 1
	}
	return 0
}

// The chapter's examples.
func TestExamples(t *testing.T) {
	type at struct {
		now    int
		inputs state
		want   state
	}
	for _, x := range []struct {
		kind  int
		first state
		steps []at
	}{
		{api.FbCtu, state{"PV": 2}, []at{
			{0, state{"CU": 1}, state{"CV": 1, "Q": 0}}, {0, state{"CU": 0}, state{"CV": 1, "Q": 0}}, {0, state{"CU": 1}, state{"CV": 2, "Q": 1}}, {0, state{"R": 1}, state{"CV": 0, "Q": 0}},
		}},
		{api.FbTon, state{"PT": 10}, []at{
			{5, state{"IN": 1}, state{"Q": 0, "ET": 0}}, {10, nil, state{"Q": 0, "ET": 5}}, {15, nil, state{"Q": 1, "ET": 10}}, {99, nil, state{"Q": 1, "ET": 10}},
			{99, state{"IN": 0}, state{"Q": 0, "ET": 0}},
		}},
		{api.FbTp, state{"PT": 10}, []at{
			{0, state{"IN": 1}, state{"Q": 1, "ET": 0}}, {4, state{"IN": 0}, state{"Q": 1, "ET": 4}}, {10, nil, state{"Q": 0, "ET": 0}},
		}},
		{api.FbTp, state{"PT": 0}, []at{
			{0, state{"IN": 1}, state{"Q": 0, "ET": 0}}, {0, nil, state{"Q": 0, "ET": 0}}, {4, state{"IN": 0}, state{"Q": 0}}, {5, state{"IN": 1}, state{"Q": 0}},
		}},
		{api.FbFall, nil, []at{{0, state{"CLK": 0}, state{"Q": 1}}, {0, nil, state{"Q": 0}}, {0, state{"CLK": 1}, state{"Q": 0}}, {0, state{"CLK": 0}, state{"Q": 1}}}},
	} {
		l := born(t, x.kind)
		for i, s := range x.steps {
			inputs := state{}
			for _, some := range []state{x.first, s.inputs} {
				for name, n := range some {
					inputs[name] = n
				}
			}
			got := l.step(s.now, inputs)
			for name, n := range s.want {
				if got[name] != n {
					t.Errorf("%s, step %d: %v, want %v", nameOf(x.kind), i, got, s.want)
				}
			}
		}
	}
}

// P10.3: edges, by what CLK was a step ahead.
func TestEdges(t *testing.T) {
	r := rand.New(rand.NewSource(10))
	for range 50 {
		up, down := born(t, api.FbRise), born(t, api.FbFall)
		wasUp, wasDown := 0, 1
		for range 200 {
			clk := r.Intn(2)
			if got := up.step(0, state{"CLK": clk})["Q"]; got != truth(clk == 1 && wasUp == 0) {
				t.Fatal("R_TRIG", clk, wasUp, got)
			}
			if got := down.step(0, state{"CLK": clk})["Q"]; got != truth(clk == 0 && wasDown == 1) {
				t.Fatal("F_TRIG", clk, wasDown, got)
			}
			wasUp, wasDown = clk, clk
		}
	}
}

// P10.4: who wins, and what stays without both.
func TestWhoWins(t *testing.T) {
	r := rand.New(rand.NewSource(4))
	set, reset := born(t, api.FbSr), born(t, api.FbRs)
	a, b := 0, 0
	for range 1000 {
		s, clear := r.Intn(2), r.Intn(2)
		switch {
		case s == 1:
			a = 1
		case clear == 1:
			a = 0
		}
		switch {
		case clear == 1:
			b = 0
		case s == 1:
			b = 1
		}
		if got := set.step(0, state{"S1": s, "R": clear})["Q1"]; got != a {
			t.Fatal("SR", s, clear, got)
		}
		if got := reset.step(0, state{"S": s, "R1": clear})["Q1"]; got != b {
			t.Fatal("RS", s, clear, got)
		}
	}
}

// P10.5: CV of CTU is how often CU rose since R; the outputs hang on CV and PV alone.
func TestCountUp(t *testing.T) {
	r := rand.New(rand.NewSource(5))
	for range 50 {
		l := born(t, api.FbCtu)
		rose, was := 0, 0
		for range 300 {
			cu, clear, pv := r.Intn(2), truth(r.Intn(30) == 0), r.Intn(9)-2
			switch {
			case clear == 1:
				rose = 0
			case cu == 1 && was == 0:
				rose++
			}
			was = cu
			got := l.step(0, state{"CU": cu, "R": clear, "PV": pv})
			if got["CV"] != rose || got["Q"] != truth(rose >= pv) {
				t.Fatal(got, rose)
			}
		}
	}
}

// P10.5: no counter leaves an INT, however often it is asked to.
func TestCountersEnd(t *testing.T) {
	up, down, both := born(t, api.FbCtu), born(t, api.FbCtd), born(t, api.FbCtud)
	for n := 1; n <= 32780; n++ {
		for _, x := range []int{1, 0} {
			if got := up.step(0, state{"CU": x, "PV": 32767}); got["CV"] != min(n, 32767) || got["Q"] != truth(n >= 32767) {
				t.Fatal("CTU", n, got)
			}
			if got := down.step(0, state{"CD": x, "PV": 5}); got["CV"] != max(-n, -32768) || got["Q"] != 1 {
				t.Fatal("CTD", n, got)
			}
			if got := both.step(0, state{"CU": x, "PV": 32767}); got["CV"] != min(n, 32767) || got["QU"] != truth(n >= 32767) || got["QD"] != 0 {
				t.Fatal("CTUD", n, got)
			}
		}
	}
	if got := both.step(0, state{"LD": 1, "PV": -32767}); got["CV"] != -32767 || got["QU"] != 1 || got["QD"] != 1 {
		t.Error(got)
	}
	for n := range 3 {
		both.step(0, state{"LD": 0, "CD": 0, "PV": 0})
		if got := both.step(0, state{"CD": 1}); got["CV"] != max(-32768-n, -32768) || got["QU"] != 0 {
			t.Error(n, got)
		}
	}
}

// CTD and CTUD by what rose, and what was laid.
func TestCountDownAndBoth(t *testing.T) {
	r := rand.New(rand.NewSource(6))
	for range 50 {
		down, both := born(t, api.FbCtd), born(t, api.FbCtud)
		cv, two, wasUp, wasDown := 0, 0, 0, 0
		for range 300 {
			cu, cd, clear, ld, pv := r.Intn(2), r.Intn(2), truth(r.Intn(25) == 0), truth(r.Intn(25) == 0), r.Intn(9)-2
			up, fell := truth(cu > wasUp), truth(cd > wasDown)
			cv, two = cv-fell, two+up-fell
			if ld == 1 {
				cv, two = pv, pv
			}
			if clear == 1 {
				two = 0
			}
			wasUp, wasDown = cu, cd
			if got := down.step(0, state{"CD": cd, "LD": ld, "PV": pv}); got["CV"] != cv || got["Q"] != truth(cv <= 0) {
				t.Fatal("CTD", got, cv)
			}
			if got := both.step(0, state{"CU": cu, "CD": cd, "R": clear, "LD": ld, "PV": pv}); got["CV"] != two || got["QU"] != truth(two >= pv) || got["QD"] != truth(two <= 0) {
				t.Fatal("CTUD", got, two)
			}
		}
	}
}

// times is a time that goes on, often by little, sometimes by nothing, and comes to MaxNow at last.
func times(r *rand.Rand, n int) []int {
	l := []int{r.Intn(3)}
	for len(l) < n {
		l = append(l, l[len(l)-1]+[]int{0, 1, 1, 2, 3, 5, 10, 40}[r.Intn(8)])
	}
	if r.Intn(4) == 0 {
		more := api.MaxNow - l[n-1]
		for i := range l {
			l[i] += more
		}
	}
	return l
}

// spans is PTs of timers' lives.
func spans() []int { return []int{-1 << 63, -1, 0, 1, 2, 5, 10, 30, 1<<63 - 1} }

// P10.6, P10.7: TON and TOF by when IN rose or fell last.
func TestDelays(t *testing.T) {
	r := rand.New(rand.NewSource(7))
	for _, pt := range spans() {
		span := max(pt, 0)
		for range 40 {
			on, off := born(t, api.FbTon), born(t, api.FbTof)
			was, ever, turned, over := 0, false, 0, false
			for _, now := range times(r, 200) {
				in := was
				if r.Intn(5) == 0 {
					in = 1 - in
				}
				if in != was {
					turned, over = now, false
				}
				was, ever = in, ever || in == 1
				got := on.step(now, state{"IN": in, "PT": pt})
				if got["Q"] != truth(in == 1 && now-turned >= span) || got["ET"] != in*min(now-turned, span) {
					t.Fatal("TON", pt, now, turned, got)
				}
				got = off.step(now, state{"IN": in, "PT": pt})
				over = over || now-turned >= span
				if got["Q"] != truth(in == 1 || ever && !over) || ever && got["ET"] != (1-in)*min(now-turned, span) && !over {
					t.Fatal("TOF", pt, now, turned, got)
				}
				if over && ever && in == 0 && got["ET"] != span || got["ET"] < 0 || got["ET"] > span {
					t.Fatal("TOF", pt, now, turned, got)
				}
			}
		}
	}
}

// P10.6, P10.7: TP by when its pulse began.
func TestPulses(t *testing.T) {
	r := rand.New(rand.NewSource(8))
	for _, pt := range spans() {
		for range 40 {
			l, was, began, q := born(t, api.FbTp), 0, 0, false
			for _, now := range times(r, 200) {
				in := r.Intn(2)
				q = q && now-began < pt
				begins := !q && in == 1 && was == 0 && pt > 0
				if begins {
					q, began = true, now
				}
				was = in
				got := l.step(now, state{"IN": in, "PT": pt})
				if got["Q"] != truth(q) || q && got["ET"] != now-began || got["ET"] < 0 || got["ET"] > max(pt, 0) {
					t.Fatal(pt, now, began, got)
				}
				if !q && in == 0 && got["ET"] != 0 {
					t.Fatal(pt, now, began, got)
				}
			}
		}
	}
}

// A step at the very time at which the span is over, and one ahead of it; PT that is not above 0; times below 0 and above MaxNow; S behind now.
func TestTimersByHand(t *testing.T) {
	for i, x := range []struct {
		kind, now    int
		ahead, after state
	}{
		{api.FbTon, 109, state{"IN": 1, "M": 1, "S": 100, "PT": 10}, state{"Q": 0, "ET": 9, "S": 100}},
		{api.FbTon, 110, state{"IN": 1, "M": 1, "S": 100, "PT": 10}, state{"Q": 1, "ET": 10, "S": 100}},
		{api.FbTon, 50, state{"IN": 1, "M": 1, "S": 51, "PT": 10, "Q": 1, "ET": 10}, state{"Q": 0, "ET": 0, "S": 51}},
		{api.FbTon, 50, state{"IN": 1, "M": 1, "S": -1, "PT": 10}, state{"Q": 0, "ET": 0, "S": -1}},
		{api.FbTon, 50, state{"IN": 1, "M": 0, "S": 7, "PT": 0}, state{"Q": 1, "ET": 0, "S": 50}},
		{api.FbTon, 50, state{"IN": 1, "M": 1, "S": 51, "PT": -5}, state{"Q": 1, "ET": 0, "S": 51}},
		{api.FbTon, -7, state{"IN": 1, "M": 0, "S": 9, "PT": 1}, state{"Q": 0, "ET": 0, "S": 0}},
		{api.FbTon, 1<<62 + 5, state{"IN": 1, "M": 0, "S": 9, "PT": 1}, state{"Q": 0, "ET": 0, "S": 1 << 62}},
		{api.FbTon, 1<<63 - 1, state{"IN": 1, "M": 1, "S": 1<<62 - 3, "PT": 10}, state{"Q": 0, "ET": 3}},
		{api.FbTof, 109, state{"IN": 0, "M": 0, "S": 100, "PT": 10, "Q": 1}, state{"Q": 1, "ET": 9}},
		{api.FbTof, 110, state{"IN": 0, "M": 0, "S": 100, "PT": 10, "Q": 1}, state{"Q": 0, "ET": 10}},
		{api.FbTof, 200, state{"IN": 0, "M": 0, "S": 100, "PT": 10, "Q": 0, "ET": 4}, state{"Q": 0, "ET": 4}},
		{api.FbTof, 200, state{"IN": 0, "M": 1, "S": 100, "PT": 0, "Q": 1}, state{"Q": 0, "ET": 0, "S": 200}},
		{api.FbTof, 200, state{"IN": 1, "M": 1, "S": 100, "PT": 0, "Q": 0, "ET": 9}, state{"Q": 1, "ET": 0, "S": 100}},
		{api.FbTof, 200, state{"IN": 0, "M": 1, "S": 100, "PT": 5, "Q": 0, "ET": 2}, state{"Q": 0, "ET": 2, "S": 200}},
		{api.FbTp, 109, state{"IN": 1, "M": 0, "S": 100, "PT": 10, "Q": 1}, state{"Q": 1, "ET": 9, "S": 100}},
		{api.FbTp, 110, state{"IN": 1, "M": 1, "S": 100, "PT": 10, "Q": 1}, state{"Q": 0, "ET": 10, "S": 100}},
		{api.FbTp, 110, state{"IN": 1, "M": 0, "S": 100, "PT": 10, "Q": 1}, state{"Q": 1, "ET": 0, "S": 110}},
		{api.FbTp, 110, state{"IN": 0, "M": 1, "S": 100, "PT": 10, "Q": 1}, state{"Q": 0, "ET": 0, "S": 100}},
		{api.FbTp, 110, state{"IN": 1, "M": 1, "S": 100, "PT": 10, "Q": 0, "ET": 7}, state{"Q": 0, "ET": 7, "S": 100}},
		{api.FbTp, 110, state{"IN": 1, "M": 0, "S": 100, "PT": -3, "Q": 0, "ET": 7}, state{"Q": 0, "ET": 0, "S": 110}},
		{api.FbTp, 110, state{"IN": 1, "M": 1, "S": 111, "PT": 10, "Q": 1, "ET": 7}, state{"Q": 1, "ET": 0, "S": 111}},
	} {
		l := born(t, x.kind)
		l.cells = cellsOf(x.kind, x.ahead)
		got := l.step(x.now, nil)
		for name, n := range x.after {
			if got[name] != n {
				t.Errorf("%d, %s: %v, want %v", i, nameOf(x.kind), got, x.after)
			}
		}
		if got["M"] != x.ahead["IN"] || got["IN"] != x.ahead["IN"] || got["PT"] != x.ahead["PT"] {
			t.Errorf("%d, %s: %v", i, nameOf(x.kind), got)
		}
	}
}

// P10.8, P10.9: lives of any inputs, at any times, forth and back: inputs stay, and each step may be stepped on.
func TestAnyLives(t *testing.T) {
	r := rand.New(rand.NewSource(11))
	for _, kind := range allKinds() {
		for range 20 {
			l := born(t, kind)
			for range 300 {
				inputs := state{}
				for _, v := range varsOf(kind) {
					if of := numbers(v.Type.Kind); v.Class == api.VarIn {
						inputs[v.Name] = of[r.Intn(len(of))]
					}
				}
				now := numbers(api.KTime)[r.Intn(9)]
				got := l.step(now, inputs)
				for name, n := range inputs {
					if got[name] != n {
						t.Fatal(nameOf(kind), name, inputs, got)
					}
				}
			}
		}
	}
}
