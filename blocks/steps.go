package blocks

import "math"

// A step has a BOOL as 0 or 1, so that "x and not y" is x &^ y.

// truth is the number of a BOOL.
func truth(is bool) int {
	if is {
		return 1
	}
	return 0
}

// rises tells whether a BOOL is TRUE that was FALSE a step ahead.
func rises(x, ahead int) bool { return x&^ahead == 1 }

func setFirst(_ int, v []int) {
	const s1, r, q1 = 0, 1, 2
	v[q1] = v[s1] | v[q1]&^v[r]
}

func resetFirst(_ int, v []int) {
	const s, r1, q1 = 0, 1, 2
	v[q1] = (v[s] | v[q1]) &^ v[r1]
}

func rise(_ int, v []int) {
	const clk, q, m = 0, 1, 2
	v[q] = v[clk] &^ v[m]
	v[m] = v[clk]
}

func fall(_ int, v []int) {
	const clk, q, m = 0, 1, 2
	v[q] = v[m] &^ v[clk]
	v[m] = v[clk]
}

func countUp(_ int, v []int) {
	const cu, r, pv, q, cv, m = 0, 1, 2, 3, 4, 5
	switch {
	case v[r] == 1:
		v[cv] = 0
	case rises(v[cu], v[m]):
		v[cv] = min(v[cv]+1, math.MaxInt16)
	}
	v[q] = truth(v[cv] >= v[pv])
	v[m] = v[cu]
}

func countDown(_ int, v []int) {
	const cd, ld, pv, q, cv, m = 0, 1, 2, 3, 4, 5
	switch {
	case v[ld] == 1:
		v[cv] = v[pv]
	case rises(v[cd], v[m]):
		v[cv] = max(v[cv]-1, math.MinInt16)
	}
	v[q] = truth(v[cv] <= 0)
	v[m] = v[cd]
}

func countBoth(_ int, v []int) {
	const cu, cd, r, ld, pv, qu, qd, cv, m, n = 0, 1, 2, 3, 4, 5, 6, 7, 8, 9
	up, down := rises(v[cu], v[m]), rises(v[cd], v[n])
	switch {
	case v[r] == 1:
		v[cv] = 0
	case v[ld] == 1:
		v[cv] = v[pv]
	case up && !down:
		v[cv] = min(v[cv]+1, math.MaxInt16)
	case down && !up:
		v[cv] = max(v[cv]-1, math.MinInt16)
	}
	v[qu] = truth(v[cv] >= v[pv])
	v[qd] = truth(v[cv] <= 0)
	v[m], v[n] = v[cu], v[cd]
}
