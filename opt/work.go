package opt

import (
	"slices"

	"relay/api"
	"relay/ir"
)

// none is the number of a register that is none.
const none = -1

// line is an instruction with the registers that it reads and the one that it gives. They are asked in each round, and so are numbered without gaps.
type line struct {
	api.Op
	reads []int
	gives int
}

// become makes a line another instruction, which reads nothing.
func (l *line) become(o api.Op) { l.Op, l.reads = o, nil }

// work is a code that is made shorter.
type work struct {
	lines   []*line // by their addresses, as they are long, and move up
	loops   []api.Loop
	facts   []fact // of each register
	stretch int    // the number of the one that is looked at, through all rounds
	isLed   bool   // a jump leads elsewhere than when dead instructions went out last
}

func newWork(f api.Flat) *work {
	w := &work{loops: slices.Clone(f.Loops), isLed: true}
	numbers := map[int]int{}
	number := func(reg int) int {
		n, known := numbers[reg]
		if !known {
			n = len(numbers)
			numbers[reg] = n
		}
		return n
	}
	lines := make([]line, len(f.Ops))
	for i, o := range f.Ops {
		lines[i] = line{Op: o, gives: none}
		for _, reg := range ir.Uses(o) {
			lines[i].reads = append(lines[i].reads, number(reg))
		}
		if reg := ir.Gives(o); reg != none {
			lines[i].gives = number(reg)
		}
		w.lines = append(w.lines, &lines[i])
	}
	w.facts = make([]fact, len(numbers))
	return w
}

// ops is the instructions that are left.
func (w *work) ops() []api.Op {
	l := make([]api.Op, len(w.lines))
	for i, x := range w.lines {
		l[i] = x.Op
	}
	return l
}

// round does each rule once, and tells whether one has changed something.
func (w *work) round() bool {
	changed := false
	for _, rule := range [...]func() bool{w.known, w.threads, w.dead, w.idle, w.unread, w.empty} {
		if rule() {
			changed = true
		}
	}
	return changed
}

// places is where those items of a list stand for which is tells so, rising.
func places[T any](l []T, is func(at int, x T) bool) []int {
	var found []int
	for at, x := range l {
		if is(at, x) {
			found = append(found, at)
		}
	}
	return found
}

// without is a list without the items at some places, which rise. The list itself is used up.
func without[T any](l []T, gone []int) []T {
	left := l[:0]
	for at, x := range l {
		if len(gone) > 0 && gone[0] == at {
			gone = gone[1:]
		} else {
			left = append(left, x)
		}
	}
	return left
}

// sweep lets those instructions go out for which goes tells so, and tells whether there were some. Each is asked once, in order.
func (w *work) sweep(goes func(at int, l *line) bool) bool {
	gone := places(w.lines, goes)
	if len(gone) == 0 {
		return false
	}
	w.lines = without(w.lines, gone)
	// A place moves up by as many as went out ahead of it; one that went out itself becomes that of the next one left.
	moved := func(place int) int {
		ahead, _ := slices.BinarySearch(gone, place)
		return place - ahead
	}
	for _, l := range w.lines {
		if isJump(l.Code) {
			l.B = moved(l.B)
		}
	}
	for i, l := range w.loops {
		w.loops[i].Head, w.loops[i].End = moved(l.Head), moved(l.End)
	}
	return true
}
