package bound

import "relay/api"

// tooGreat stands for all numbers above MaxBound: what is added to one, or taken more times, is too great as well.
const tooGreat = api.MaxBound + 1

func capped(n int) int { return min(n, tooGreat) }

// result is how many instructions a run of a code takes at most; or the lowest of the codes that belong to it that can't be reckoned.
type result struct{ most, odd int }

// reckoning is codes that are reckoned when they are asked for, each once.
type reckoning struct {
	*web
	results []result
	done    int // how many of the web's order have a result
}

func newReckoning(codes []api.Flat) *reckoning {
	return &reckoning{web: newWeb(codes), results: make([]result, len(codes))}
}

func (r *reckoning) of(fn int) (int, int, api.Errno) {
	if at, why := r.fault(fn); why != api.OK {
		return 0, at, why
	}
	for ; r.done < len(r.order); r.done++ {
		code := r.order[r.done]
		if _, why := r.fault(code); why == api.OK {
			r.results[code] = r.result(code)
		}
	}
	switch x := r.results[fn]; {
	case x.odd != none:
		return 0, x.odd, api.ErrCycle
	case x.most > api.MaxBound:
		return 0, fn, api.ErrGreat
	default:
		return x.most, 0, api.OK
	}
}

// result reckons a code; those that it calls have been.
func (r *reckoning) result(code int) result {
	x := result{odd: none}
	for _, c := range r.nodes[code].calls {
		x.odd = min(x.odd, r.results[c].odd)
	}
	p, can := newPlan(r.codes[code])
	if !can {
		x.odd = min(x.odd, code)
	}
	if x.odd == none {
		x.most = newWalker(p, r.costs(code)).most()
	}
	return x
}

// costs is what each instruction of a code costs.
func (r *reckoning) costs(code int) []int {
	ops := r.codes[code].Ops
	l := make([]int, len(ops))
	for at := range ops {
		l[at] = 1
		if o := &ops[at]; o.Code == api.IrCall {
			l[at] += r.results[o.B].most
		}
	}
	return l
}

// task is the bound of a task.
func (r *reckoning) task(j api.Job) (int, api.Errno) {
	if len(j.Bases) != len(j.Codes) {
		return 0, api.ErrArg
	}
	sum := 0
	for _, code := range j.Codes {
		most, _, why := r.of(code)
		if why != api.OK {
			return 0, why
		}
		sum += most
	}
	if sum > api.MaxBound {
		return 0, api.ErrGreat
	}
	return sum, api.OK
}
