package opt

import (
	"relay/api"
	"relay/ir"
)

// threads is the second rule: jumps go where they come to. (A jump to its own place is a ring by itself.)
func (w *work) threads() bool {
	short := places(w.lines, func(at int, l *line) bool {
		return isJump(l.Code) && w.lines[l.B].Code == api.IrJump
	})
	if len(short) == 0 {
		return false
	}
	changed := false
	ends := w.ends()
	for _, at := range short {
		l := w.lines[at]
		if end := ends[l.B]; end != nowhere {
			l.B = end
			changed = true
		}
	}
	w.isLed = w.isLed || changed
	return changed
}

// Where a way ends, if that is not looked for yet, and if it comes round.
const (
	unknown = -1
	nowhere = -2
)

// ends is where the way along IrJumps from each place ends.
func (w *work) ends() []int {
	ends := make([]int, len(w.lines))
	for at := range ends {
		ends[at] = unknown
	}
	for from := range ends {
		var way []int
		at := from
		for ends[at] == unknown && w.lines[at].Code == api.IrJump {
			// Till its end is found, whoever comes here has come round.
			ends[at] = nowhere
			way = append(way, at)
			at = w.lines[at].B
		}
		if ends[at] == unknown {
			ends[at] = at
		}
		for _, place := range way {
			ends[place] = ends[at]
		}
	}
	return ends
}

// dead is the third rule: what nothing comes to goes out. That is only so, where a jump has come to lead elsewhere.
func (w *work) dead() bool {
	if !w.isLed {
		return false
	}
	w.isLed = false
	come := make([]bool, len(w.lines))
	come[0] = true
	open := []int{0}
	for len(open) > 0 {
		at := open[len(open)-1]
		open = open[:len(open)-1]
		for _, next := range ir.Next(w.lines[at].Op, at) {
			if !come[next] {
				come[next] = true
				open = append(open, next)
			}
		}
	}
	return w.sweep(func(at int, l *line) bool { return !come[at] })
}

// idle is the fourth rule: a jump to the place right behind it goes out.
func (w *work) idle() bool {
	return w.sweep(func(at int, l *line) bool { return isJump(l.Code) && l.B == at+1 })
}

// unread is the fifth rule: what only sets a register that nothing reads goes out.
func (w *work) unread() bool {
	isRead := make([]bool, len(w.facts))
	for _, l := range w.lines {
		for _, reg := range l.reads {
			isRead[reg] = true
		}
	}
	return w.sweep(func(at int, l *line) bool { return isPlain(l.Op) && l.gives != none && !isRead[l.gives] })
}

// isPlain tells whether an instruction sets a register and does nothing else: a reference may lead nowhere.
func isPlain(o api.Op) bool {
	switch o.Code {
	case api.IrConst, api.IrMove, api.IrRef:
		return true
	case api.IrLoad:
		return o.B == api.AreaThis || o.B == api.AreaGlobal
	}
	return false
}

// empty is the sixth rule: loops without instructions go out.
func (w *work) empty() bool {
	gone := places(w.loops, func(at int, l api.Loop) bool { return l.Head == l.End })
	w.loops = without(w.loops, gone)
	return len(gone) > 0
}
