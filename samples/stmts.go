package samples

import (
	"slices"
	"strconv"
	"strings"

	"relay/api"
)

const (
	deepest   = 3 // how deep expressions are at most
	nestedMax = 3 // how deep statements are at most
)

// place is a place that may be assigned, of some variable that will do, and its kind; KNone, if there is none.
func (w *writer) place(will func(variable) bool, deep int) (string, api.Kind) {
	var l []variable
	for _, v := range w.scope {
		if v.block == nil && !v.isFixed && !slices.Contains(w.fors, v.name) && will(v) {
			l = append(l, v)
		}
	}
	if len(l) == 0 {
		return "", api.KNone
	}
	v := l[w.pick(len(l))]
	if v.isArray {
		return v.name + "[" + w.index(v, deep) + "]", v.kind
	}
	return v.name, v.kind
}

// body is statements of a POU.
func (w *writer) body(n int) string { return w.stmts(n, nestedMax) }

func (w *writer) stmts(n, nested int) string {
	text := ""
	for range n {
		text += w.stmt(nested) + "\n"
	}
	return text
}

// stmt is a statement.
func (w *writer) stmt(nested int) string {
	if nested > 0 && w.maybe(3) {
		return w.around(nested - 1)
	}
	switch w.pick(12) {
	case 0:
		return ";"
	case 1:
		if w.loops > 0 {
			return "EXIT;"
		}
	case 2:
		if nested < nestedMax && w.maybe(3) {
			return "RETURN;"
		}
	case 3, 4, 5:
		return w.instance()
	}
	return w.assignment()
}

// assignment is an assignment, or nothing, if there is no place.
func (w *writer) assignment() string {
	var bounded variable // the last one that has bounds
	place, kind := w.place(func(v variable) bool {
		if v.some > 0 {
			bounded = v
		}
		return v.some == 0 || w.maybe(4)
	}, deepest-1)
	switch {
	case bounded.some > 0 && !bounded.isArray && w.maybe(4):
		return bounded.name + " := " + strconv.Itoa(bounded.some) + ";"
	case kind == api.KNone:
		return ";"
	}
	return place + " := " + w.wanted(kind, deepest) + ";"
}

// around is a statement with others in it.
func (w *writer) around(nested int) string {
	inner := func() string { return w.stmts(1+w.pick(2), nested) }
	switch w.pick(6) {
	case 0:
		return "IF " + w.wanted(api.KBool, deepest) + " THEN " + inner() + "END_IF;"
	case 1:
		return "IF " + w.wanted(api.KBool, 1) + " THEN " + inner() + "ELSIF " + w.wanted(api.KBool, 1) + " THEN " + inner() + "ELSE " + inner() + "END_IF;"
	case 2:
		return w.choice(inner)
	case 3:
		return w.count(inner)
	}
	w.loops++
	defer func() { w.loops-- }()
	bound, exit := "{BOUND "+strconv.Itoa(1+w.pick(4))+"} ", ""
	if w.pick(3) > 0 {
		exit = "IF " + w.wanted(api.KBool, 1) + " THEN EXIT; END_IF; "
	}
	if w.maybe(2) {
		return bound + "WHILE " + w.wanted(api.KBool, 2) + " DO " + inner() + exit + "END_WHILE;"
	}
	return bound + "REPEAT " + inner() + exit + "UNTIL " + w.wanted(api.KBool, 2) + " END_REPEAT;"
}

// choice is a CASE.
func (w *writer) choice(inner func() string) string {
	text := "CASE " + w.firm(api.KSint+api.Kind(w.pick(8)), 2) + " OF "
	for range w.pick(4) {
		low := w.pick(10)
		text += strconv.Itoa(low) + ".." + strconv.Itoa(low+w.pick(60)) + ", " + strconv.Itoa(w.pick(120)) + ": " + inner()
	}
	if w.maybe(2) {
		text += "ELSE " + inner()
	}
	return text + "END_CASE;"
}

// count is a FOR, or nothing, if there is no variable for it.
func (w *writer) count(inner func() string) string {
	// All types but that of colors, which has those from 0 to 2, have the numbers from 3 to 5.
	low := 3 * w.pick(2)
	name, kind := w.place(func(v variable) bool {
		return !v.isArray && !v.isRef && isInteger(v.kind) && (low > 0 && v.text != "color" || low == 0 && v.text != "high")
	}, 0)
	if kind == api.KNone {
		return ";"
	}
	from, to, by := low, low+w.pick(3), ""
	if w.maybe(2) {
		from, to, by = to, from, " BY -1"
	}
	if w.maybe(4) {
		from, to = to, from
	}
	w.fors = append(w.fors, name)
	w.loops++
	text := "FOR " + name + " := " + strconv.Itoa(from) + " TO " + strconv.Itoa(to) + by + " DO " + inner() + "END_FOR;"
	w.loops--
	w.fors = w.fors[:len(w.fors)-1]
	return text
}

// instance is a call of an instance, or nothing, if there is none.
func (w *writer) instance() string {
	var l []variable
	for _, v := range w.scope {
		if v.block != nil {
			l = append(l, v)
		}
	}
	if len(l) == 0 {
		return ";"
	}
	v := l[w.pick(len(l))]
	args, is := w.arguments(v.block.params, 2)
	if !is {
		return ";"
	}
	for _, o := range v.block.outs {
		place, kind := w.place(func(v variable) bool { return v.kind == o.kind || slices.Contains(narrower(v.kind), o.kind) }, 1)
		if kind != api.KNone && w.maybe(2) {
			args = append(args, o.name+" => "+place)
		}
	}
	return v.name + "(" + strings.Join(args, ", ") + ");"
}
