package bound

import (
	"container/heap"
	"sort"

	"relay/api"
)

// lowest is codes' numbers, of which the lowest goes first.
type lowest struct{ sort.IntSlice }

func (l *lowest) Push(x any) { l.IntSlice = append(l.IntSlice, x.(int)) }

func (l *lowest) Pop() any {
	last := len(l.IntSlice) - 1
	x := l.IntSlice[last]
	l.IntSlice = l.IntSlice[:last]
	return x
}

// queue is codes that wait for those that they call.
type queue struct {
	callers [][]int // of each code
	waits   []int   // for how many codes each one waits
	ready   *lowest // those that wait for none
}

// newQueue is codes of which none has gone yet; false, if one calls what is no code.
func newQueue(codes []api.Flat) (*queue, bool) {
	q := &queue{callers: make([][]int, len(codes)), waits: make([]int, len(codes)), ready: &lowest{}}
	for i, f := range codes {
		calls := Calls(f)
		for _, c := range calls {
			if c < 0 || c >= len(codes) {
				return nil, false
			}
			q.callers[c] = append(q.callers[c], i)
		}
		q.waits[i] = len(calls)
		if len(calls) == 0 {
			heap.Push(q.ready, i)
		}
	}
	return q, true
}

// all is the codes in the order in which they go. Those that wait for one another never do.
func (q *queue) all() []int {
	var gone []int
	for q.ready.Len() > 0 {
		c := heap.Pop(q.ready).(int)
		gone = append(gone, c)
		for _, caller := range q.callers[c] {
			q.waits[caller]--
			if q.waits[caller] == 0 {
				heap.Push(q.ready, caller)
			}
		}
	}
	return gone
}
