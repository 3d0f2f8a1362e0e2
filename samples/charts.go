package samples

import (
	"strconv"
	"strings"

	"relay/api"
)

// chart is steps, transitions between them, and actions.
func (w *writer) chart() string {
	steps, actions := 1+w.pick(4), w.pick(3)
	targets := w.simplePlaces(func(v variable) bool { return v.kind == api.KBool })
	for i := range actions {
		targets = append(targets, "ACT"+strconv.Itoa(i))
	}
	var l []string
	first := w.pick(steps)
	for i := range steps {
		word := "STEP "
		if i == first {
			word = "INITIAL_STEP "
		}
		text := word + step(i) + ":"
		for range w.pick(4) {
			if len(targets) > 0 {
				text += " " + w.one(targets...) + "(" + w.qualifier() + ");"
			}
		}
		l = append(l, text+" END_STEP")
	}
	for range 1 + w.pick(2*steps) {
		l = append(l, "TRANSITION FROM "+w.side(steps)+" TO "+w.side(steps)+" := "+w.condition(steps)+"; END_TRANSITION")
	}
	for i := range actions {
		l = append(l, "ACTION ACT"+strconv.Itoa(i)+":\n"+w.stmts(1+w.pick(2), 1)+"END_ACTION")
	}
	w.shuffle(l)
	return strings.Join(l, "\n") + "\n"
}

func step(i int) string { return "S" + strconv.Itoa(i) }

func (w *writer) qualifier() string {
	if w.maybe(2) {
		return w.one("N", "N", "S", "R", "P", "P0", "P1")
	}
	return w.one("L", "D", "SD", "DS", "SL") + ", T#" + w.one("0s", "1ms", "5ms", "20ms")
}

// side is a step, or two of them.
func (w *writer) side(steps int) string {
	i := w.pick(steps)
	if k := w.pick(steps); k != i && w.maybe(4) {
		return "(" + step(i) + ", " + step(k) + ")"
	}
	return step(i)
}

// condition is when a transition fires; it may ask steps.
func (w *writer) condition(steps int) string {
	s := step(w.pick(steps))
	switch w.pick(5) {
	case 0:
		return s + ".T >= T#" + w.one("0s", "2ms", "10ms")
	case 1:
		return w.one("NOT ", "") + s + ".X AND " + w.firm(api.KBool, 1)
	case 2:
		return "TRUE"
	}
	return w.wanted(api.KBool, 2)
}
