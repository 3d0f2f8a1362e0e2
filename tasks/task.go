package tasks

import (
	"cmp"

	"relay/api"
)

// mostOver is where overruns stop to be counted.
const mostOver = 1<<31 - 1

// task is a job, and whether it waits for its turn.
type task struct {
	api.Job
	waits   bool
	since   int // since when it waits
	over    int // how often it was due in vain
	trigger bool
}

// due lets it wait, if it has become due n times, the first time as is told; all but one of them are in vain, and so is that one, if it waits already.
func (t *task) due(n, first int) {
	if n > 0 && !t.waits {
		t.waits, t.since = true, first
		n--
	}
	t.over = min(t.over+n, mostOver)
}

// multiples is how many multiples of the interval lie behind a time, up to now, and the first of them. At a first entry that time is among them, if it is one.
func (t *task) multiples(ahead, now int, isFirst bool) (int, int) {
	n, past := now/t.Interval-ahead/t.Interval, ahead%t.Interval
	if isFirst && past == 0 {
		return n + 1, ahead
	}
	return n, ahead - past + t.Interval
}

// see takes in what its trigger is now.
func (t *task) see(trigger bool, now int) {
	if trigger && !t.trigger {
		t.due(1, now)
	}
	t.trigger = trigger
}

// isAheadOf tells whether its turn comes ahead of that of another one, which stands ahead of it in the list.
func (t *task) isAheadOf(u *task) bool {
	return cmp.Or(cmp.Compare(t.Priority, u.Priority), cmp.Compare(t.since, u.since)) < 0
}
