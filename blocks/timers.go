package blocks

// elapsed is how long ago a timer began, at most its span, and whether that is over.
func elapsed(now, began, span int) (int, bool) {
	span, since := max(span, 0), 0
	// Cells of whomever may have begun at any time.
	if began >= 0 && began <= now {
		since = now - began
	}
	return min(since, span), since >= span
}

func pulse(now int, v []int) {
	const in, pt, q, et, m, s = 0, 1, 2, 3, 4, 5
	if v[q] == 1 {
		since, over := elapsed(now, v[s], v[pt])
		v[q], v[et] = truth(!over), since
	}
	// One that is over just now may begin anew in the same step.
	if v[q] == 0 {
		switch {
		case rises(v[in], v[m]):
			v[s], v[et], v[q] = now, 0, truth(v[pt] > 0)
		case v[in] == 0:
			v[et] = 0
		}
	}
	v[m] = v[in]
}

func onDelay(now int, v []int) {
	const in, pt, q, et, m, s = 0, 1, 2, 3, 4, 5
	if v[in] == 0 {
		v[q], v[et] = 0, 0
	} else {
		if v[m] == 0 {
			v[s] = now
		}
		since, over := elapsed(now, v[s], v[pt])
		v[q], v[et] = truth(over), since
	}
	v[m] = v[in]
}

func offDelay(now int, v []int) {
	const in, pt, q, et, m, s = 0, 1, 2, 3, 4, 5
	if v[in] == 1 {
		v[q], v[et] = 1, 0
	} else {
		if v[m] == 1 {
			v[s] = now
		}
		if v[q] == 1 {
			since, over := elapsed(now, v[s], v[pt])
			v[q], v[et] = truth(!over), since
		}
	}
	v[m] = v[in]
}
