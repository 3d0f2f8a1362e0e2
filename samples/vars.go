package samples

import (
	"strconv"

	"relay/api"
	"relay/value"
)

// typed is a type of one value: its text, its kind, and a number within its bounds.
type typed struct {
	text string
	kind api.Kind
	some int
}

// simple is a kind as a type.
func simple(k api.Kind) typed { return typed{text: value.Word(k), kind: k} }

// typed is some type.
func (w *writer) typed() typed {
	named := [...]typed{
		{"level", api.KInt, 7}, {"high", api.KUsint, 4}, {"color", api.KInt, 1}, {"short", api.KString, 0}, {"wide", api.KUlint, 77},
	}
	if n := w.pick(6 * len(named)); n < len(named) {
		return named[n]
	}
	// These kinds are what most expressions are about.
	often := [...]api.Kind{api.KBool, api.KInt, api.KDint, api.KTime, api.KLreal}
	if w.maybe(3) {
		return simple(often[w.pick(len(often))])
	}
	return simple(w.kind())
}

// kind is some kind.
func (w *writer) kind() api.Kind { return api.KBool + api.Kind(w.pick(int(api.KString))) }

// variable is a variable of a POU, or an instance.
type variable struct {
	name string
	typed
	isArray  bool
	from, to int
	isRef    bool // VAR_IN_OUT
	isFixed  bool // it is not assigned
	addr     string
	block    *pou
}

const (
	oneValue   = false
	mayBeArray = true
)

// declared is n new variables, whose names begin with a letter.
func (w *writer) declared(letter string, n int, arrays bool) []variable {
	var l []variable
	for i := range n {
		v := variable{name: letter + strconv.Itoa(i), typed: w.typed()}
		if arrays && w.maybe(4) {
			v.isArray, v.from = true, w.pick(7)-3
			v.to = v.from + w.pick(4)
		}
		l = append(l, v)
	}
	return l
}

// fixed is variables that are not assigned.
func fixed(l []variable) []variable {
	var out []variable
	for _, v := range l {
		v.isFixed = true
		out = append(out, v)
	}
	return out
}

// referred is variables that stand for others.
func referred(l []variable) []variable {
	var out []variable
	for _, v := range l {
		v.isRef = true
		out = append(out, v)
	}
	return out
}

func (v variable) typeText() string {
	switch {
	case v.block != nil:
		return v.block.name
	case v.isArray:
		return "ARRAY [" + strconv.Itoa(v.from) + ".." + strconv.Itoa(v.to) + "] OF " + v.text
	}
	return v.text
}

// plain is declarations without initial values.
func plain(l []variable) string {
	text := ""
	for _, v := range l {
		text += v.name + " : " + v.typeText() + "; "
	}
	return text
}

// texts is declarations, some with initial values.
func (w *writer) texts(l []variable) string {
	text := ""
	for _, v := range l {
		text += v.name
		if v.addr != "" {
			text += " AT " + v.addr
		}
		text += " : " + v.typeText()
		switch {
		case w.maybe(2):
		case v.isArray:
			text += " := [" + w.initial(v.typed) + "]"
		default:
			text += " := " + w.initial(v.typed)
		}
		text += "; "
	}
	return text
}

// initial is an initial value that fits a type.
func (w *writer) initial(t typed) string {
	switch {
	case t.text == "short":
		return "'ab'"
	case t.text == value.Word(t.kind):
		return w.literal(t.kind)
	}
	return strconv.Itoa(t.some)
}

// literal is a literal of a kind.
func (w *writer) literal(k api.Kind) string {
	switch k {
	case api.KBool:
		return w.one("TRUE", "FALSE")
	case api.KTime:
		return w.one("T#0s", "T#1ms", "T#2h", "T#7ns", "T#-1s")
	case api.KDate:
		return w.one("D#1970-01-01", "D#2000-02-29", "D#2199-12-31")
	case api.KTod:
		return w.one("TOD#00:00:00", "TOD#12:34:56", "TOD#23:59:59")
	case api.KDt:
		return w.one("DT#1970-01-01-00:00:00", "DT#2026-11-17-12:00:00", "DT#2199-12-31-23:59:59")
	case api.KLreal:
		return w.one("0.0", "1.5", "2.5", "1.0e20", "LREAL#-3.25")
	case api.KString:
		return w.one("''", "'a'", "'abcd'", "'hello'", "'12'")
	}
	n := strconv.Itoa(w.amount())
	if k <= api.KLint && w.maybe(4) {
		n = "-" + n
	}
	return value.Word(k) + "#" + n
}

// amount is a number that all kinds of numbers have, mostly a small one, and seldom 0.
func (w *writer) amount() int {
	switch w.pick(12) {
	case 0:
		return 0
	case 1:
		return w.pick(128)
	}
	return 1 + w.pick(5)
}

// free is a number without a kind that all kinds of numbers have.
func (w *writer) free() string { return strconv.Itoa(w.amount()) }

// few is a small number of an integer kind.
func (w *writer) few(deep int) string {
	k := api.KSint + api.Kind(w.pick(8))
	if w.maybe(8) {
		return w.firm(k, deep)
	}
	return value.Word(k) + "#" + strconv.Itoa(w.pick(3))
}
