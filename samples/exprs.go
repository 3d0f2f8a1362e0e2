package samples

import (
	"strconv"
	"strings"

	"relay/api"
	"relay/value"
)

func isSigned(k api.Kind) bool  { return k >= api.KSint && k <= api.KLint }
func isInteger(k api.Kind) bool { return k >= api.KSint && k <= api.KUlint }
func isRow(k api.Kind) bool     { return k >= api.KByte && k <= api.KLword }
func isCounted(k api.Kind) bool { return isInteger(k) || isRow(k) || k == api.KLreal }

// narrower is kinds whose values are taken for another one's, some of them.
func narrower(k api.Kind) []api.Kind {
	switch k {
	case api.KInt, api.KDint, api.KLint:
		return []api.Kind{k - 1, k + 3}
	case api.KUint, api.KUdint, api.KUlint, api.KWord, api.KDword, api.KLword:
		return []api.Kind{k - 1}
	case api.KLreal:
		return []api.Kind{api.KSint, api.KDint, api.KUdint}
	}
	return nil
}

// wanted is an expression where a kind is wanted.
func (w *writer) wanted(k api.Kind, deep int) string {
	less := narrower(k)
	switch {
	case len(less) > 0 && w.maybe(6):
		return w.firm(less[w.pick(len(less))], deep)
	case (isSigned(k) || k == api.KLreal) && w.maybe(8):
		return w.one("-", "- -") + w.free()
	case isCounted(k) && w.maybe(4):
		return w.free()
	case (isInteger(k) || k == api.KLreal) && w.maybe(12):
		return w.free() + w.one(" + ", " * ", " / ") + w.free()
	}
	return w.firm(k, deep)
}

// firm is an expression that has a kind by itself.
func (w *writer) firm(k api.Kind, deep int) string {
	if deep > 0 && w.pick(3) > 0 {
		switch w.pick(4) {
		case 0:
			return w.standard(k, deep-1)
		case 1:
			if s, is := w.called(k, deep-1); is {
				return s
			}
		}
		return w.operation(k, deep-1)
	}
	return w.atom(k, deep)
}

// atom is a literal, a variable, an element or a field of a kind.
func (w *writer) atom(k api.Kind, deep int) string {
	var l []string
	for _, v := range w.scope {
		switch {
		case v.block != nil:
			for _, f := range append(append([]variable{}, v.block.params...), v.block.outs...) {
				if f.kind == k && !f.isRef {
					l = append(l, v.name+"."+f.name)
				}
			}
		case v.kind == k && v.isArray:
			l = append(l, v.name+"["+w.index(v, deep)+"]")
		case v.kind == k:
			l = append(l, v.name, v.name)
		}
	}
	if k == api.KInt && w.maybe(8) {
		return w.one("red", "green", "blue")
	}
	if len(l) == 0 || w.maybe(5) {
		return w.literal(k)
	}
	return l[w.pick(len(l))]
}

// index is an index of an array, mostly one that it has.
func (w *writer) index(v variable, deep int) string {
	switch {
	case deep > 0 && w.maybe(12):
		return w.firm(api.KSint+api.Kind(w.pick(8)), deep-1)
	case w.maybe(40):
		return strconv.Itoa(v.from + w.pick(9) - 4)
	}
	n := v.from + w.pick(v.to-v.from+1)
	if n >= 0 && w.maybe(3) {
		return value.Word(api.KSint+api.Kind(w.pick(8))) + "#" + strconv.Itoa(n)
	}
	return strconv.Itoa(n)
}

// pair is two operands of a kind, one of which may be a number without one, or of a narrower kind.
func (w *writer) pair(op string, k api.Kind, deep int) string {
	left, right := w.firm(k, deep), w.firm(k, deep)
	less := narrower(k)
	switch n := w.pick(6); {
	case n == 0 && isCounted(k):
		left = w.free()
	case n == 1 && isCounted(k):
		right = w.free()
	case n == 2 && len(less) > 0:
		left = w.firm(less[w.pick(len(less))], deep)
	case n == 3 && len(less) > 0:
		right = w.firm(less[w.pick(len(less))], deep)
	}
	return "(" + left + " " + op + " " + right + ")"
}

// operation is an operation that comes to a kind.
func (w *writer) operation(k api.Kind, deep int) string {
	switch {
	case (isSigned(k) || k == api.KLreal || k == api.KTime) && w.maybe(6):
		return "(-" + w.firm(k, deep) + ")"
	case isInteger(k):
		return w.pair(w.one("+", "-", "*", "/", "MOD"), k, deep)
	case k == api.KLreal:
		return w.pair(w.one("+", "-", "*", "/"), k, deep)
	case (isRow(k) || k == api.KBool) && w.maybe(5):
		return "(NOT " + w.firm(k, deep) + ")"
	case isRow(k) || k == api.KBool && w.maybe(2):
		return w.pair(w.one("AND", "OR", "XOR", "&"), k, deep)
	case k == api.KBool:
		return w.pair(w.one("=", "<>", "<", "<=", ">", ">="), w.kind(), deep)
	case k == api.KTime:
		return w.span(deep)
	case k == api.KTod || k == api.KDt:
		return "(" + w.firm(k, deep) + w.one(" + ", " - ") + w.firm(api.KTime, deep) + ")"
	}
	return w.atom(k, deep)
}

// span is an operation that comes to a TIME.
func (w *writer) span(deep int) string {
	switch w.pick(4) {
	case 0:
		return "(" + w.firm(api.KTime, deep) + w.one(" * ", " / ") + w.firm(api.KSint+api.Kind(w.pick(8)), deep) + ")"
	case 1:
		return "(" + w.firm(api.KTime, deep) + w.one(" * ", " / ") + w.free() + ")"
	case 2:
		k := api.KDate + api.Kind(w.pick(3))
		return "(" + w.firm(k, deep) + " - " + w.firm(k, deep) + ")"
	}
	return "(" + w.firm(api.KTime, deep) + w.one(" + ", " - ") + w.firm(api.KTime, deep) + ")"
}

// standard is a call of a standard function that gives a kind.
func (w *writer) standard(k api.Kind, deep int) string {
	x := func(kind api.Kind) string { return w.firm(kind, deep) }
	n := func() string { return w.few(deep) }
	switch pick := w.pick(9); {
	case pick == 0:
		return w.call("SEL", "G IN0 IN1", x(api.KBool), x(k), x(k))
	case pick == 1:
		return w.call("MUX", "K IN0 IN1 IN2", n(), x(k), x(k), x(k))
	case pick == 2:
		return w.call("LIMIT", "MN IN MX", x(k), x(k), x(k))
	case pick == 3 && isCounted(k):
		return w.call(w.one("MAX", "MIN"), "IN1 IN2 IN3", x(k), w.free(), x(k))
	case pick <= 4:
		return w.call(w.one("MAX", "MIN"), "IN1 IN2", x(k), x(k))
	case pick == 5 && (isInteger(k) || k == api.KLreal || k == api.KTime):
		return "ABS(" + x(k) + ")"
	case pick <= 6 && isRow(k):
		return w.call(w.one("SHL", "SHR", "ROL", "ROR"), "IN N", x(k), n())
	case pick <= 7 && k == api.KString:
		return w.text(x(k), x(k), n(), n())
	case pick <= 7 && k == api.KInt:
		return w.one("LEN("+x(api.KString)+")", w.call("FIND", "IN1 IN2", x(api.KString), x(api.KString)))
	}
	return w.conversion(k, deep)
}

// text is a call of a function of texts.
func (w *writer) text(a, b, l, p string) string {
	switch w.pick(6) {
	case 0:
		return w.call(w.one("LEFT", "RIGHT"), "IN L", a, l)
	case 1:
		return w.call(w.one("MID", "DELETE"), "IN L P", a, l, p)
	case 2:
		return w.call("INSERT", "IN1 IN2 P", a, b, p)
	case 3:
		return w.call("REPLACE", "IN1 IN2 L P", a, b, l, p)
	}
	return w.call("CONCAT", "IN1 IN2", a, b)
}

// conversion is a call of a function that converts to a kind, or moves it.
func (w *writer) conversion(k api.Kind, deep int) string {
	from := k
	switch {
	case isInteger(k) || isRow(k):
		from = api.KBool + api.Kind(w.pick(int(api.KLword)))
	case k == api.KLreal || k == api.KString:
		from = api.KBool + api.Kind(w.pick(int(api.KUlint)))
	case k >= api.KTime && k <= api.KDt:
		from = api.KLint
	case k == api.KBool:
		from = api.KLreal
	}
	if from == k {
		return "MOVE(" + w.firm(k, deep) + ")"
	}
	return w.one("TO_", value.Word(from)+"_TO_") + value.Word(k) + "(" + w.firm(from, deep) + ")"
}

// call is a call with arguments by their places, or by their names in some order.
func (w *writer) call(name, formals string, args ...string) string {
	if w.maybe(3) {
		names := strings.Fields(formals)
		for i := range args {
			args[i] = names[i] + " := " + args[i]
		}
		w.shuffle(args)
	}
	return name + "(" + strings.Join(args, ", ") + ")"
}

func (w *writer) shuffle(l []string) {
	for i := range l {
		k := i + w.pick(len(l)-i)
		l[i], l[k] = l[k], l[i]
	}
}

// called is a call of a function that gives a kind, if there is one.
func (w *writer) called(k api.Kind, deep int) (string, bool) {
	var l []pou
	for _, f := range w.functions {
		if f.result.kind == k {
			l = append(l, f)
		}
	}
	if len(l) == 0 {
		return "", false
	}
	f := l[w.pick(len(l))]
	args, is := w.arguments(f.params, deep)
	return f.name + "(" + strings.Join(args, ", ") + ")", is
}

// arguments is arguments for parameters, some of which may be left out if they have names; false, if there is no place that one can stand for.
func (w *writer) arguments(params []variable, deep int) ([]string, bool) {
	var args []string
	named := w.maybe(2)
	for _, p := range params {
		text, is := "", true
		switch {
		case p.isRef:
			var kind api.Kind
			text, kind = w.place(func(v variable) bool { return v.text == p.text }, deep)
			is = kind != api.KNone
		case named && w.maybe(3):
			continue
		default:
			text = w.wanted(p.kind, deep)
		}
		if !is {
			return nil, false
		}
		if named {
			text = p.name + " := " + text
		}
		args = append(args, text)
	}
	if named {
		w.shuffle(args)
	}
	return args, true
}
