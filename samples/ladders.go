package samples

import (
	"strings"

	"relay/api"
)

// ladder is rungs; none, if there is no coil.
func (w *writer) ladder(n int) string {
	coils := w.simplePlaces(func(v variable) bool { return v.kind == api.KBool })
	if len(coils) == 0 {
		return ""
	}
	text := ""
	for range n {
		text += "RUNG " + w.series(2) + "=> "
		var l []string
		for range 1 + w.pick(2) {
			l = append(l, w.one("", "", "!", "+", "-")+w.one(coils...))
		}
		text += strings.Join(l, ", ") + ";\n"
	}
	return text
}

// series is contacts one behind another, each with a blank behind it.
func (w *writer) series(deep int) string {
	items := w.items(api.KBool)
	text := ""
	for range w.pick(4) {
		if deep > 0 && w.maybe(3) {
			text += "[ " + w.series(deep-1) + "| " + w.series(deep-1) + "] "
		} else if len(items) > 0 {
			text += w.one("", "", "!", "+", "-") + w.one(items...) + " "
		}
	}
	return text
}

// items is names of variables, and variables of instances, that have a kind.
func (w *writer) items(k api.Kind) []string {
	var l []string
	for _, v := range w.scope {
		switch {
		case v.block != nil:
			l = append(l, w.fields(v, k)...)
		case v.kind == k && !v.isArray:
			l = append(l, v.name)
		}
	}
	return l
}

// fields is the variables of an instance that have a kind.
func (w *writer) fields(v variable, k api.Kind) []string {
	var l []string
	for _, f := range append(append([]variable{}, v.block.params...), v.block.outs...) {
		if f.kind == k && !f.isRef {
			l = append(l, v.name+"."+f.name)
		}
	}
	return l
}

// simplePlaces is names that may be assigned, of variables that will do.
func (w *writer) simplePlaces(will func(variable) bool) []string {
	var l []string
	for _, v := range w.scope {
		if v.block == nil && !v.isFixed && !v.isArray && will(v) {
			l = append(l, v.name)
		}
	}
	return l
}
