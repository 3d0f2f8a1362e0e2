package samples

import (
	"slices"
	"strconv"
	"strings"

	"relay/api"
	"relay/value"
)

// list is Instruction List: n parts, each of which begins with LD, and jumps from part to part. Labels stand where jumps lead, and now and then elsewhere.
func (w *writer) list(n int) string {
	var parts []string
	for i := range n {
		parts = append(parts, strings.Join(w.part(i, n), "\n"))
	}
	all, text := strings.Join(parts, "\n")+"\n", ""
	for i := range n + 1 {
		if strings.Contains(all, " "+label(i)+"\n") || w.maybe(20) {
			text += label(i) + ":\n"
		}
		if i < n {
			text += parts[i] + "\n"
		}
	}
	return text
}

// label is the label ahead of a part, or, of as many as there are, behind them all.
func label(part int) string { return "X" + strconv.Itoa(part) }

// part is instructions that come to something, and do something with it.
func (w *writer) part(i, n int) []string {
	to := label(i + 1 + w.pick(n-i))
	switch w.pick(8) {
	case 0:
		return append(w.accumulated(api.KBool, deepest), w.one("JMPC ", "JMPCN ")+to)
	case 1:
		return append(w.accumulated(api.KBool, 1), w.one("RETC", "RETCN"))
	case 2:
		if w.maybe(3) {
			return []string{"JMP " + to}
		}
	case 3, 4:
		if call := strings.TrimSuffix(w.instance(), ";"); call != "" && w.maybe(2) {
			return append(w.accumulated(api.KBool, 1), w.one("CALC ", "CALCN ")+call)
		} else if call != "" {
			return []string{"CAL " + call}
		}
	}
	return w.stored()
}

// stored is instructions that put something into places.
func (w *writer) stored() []string {
	place, kind := w.place(func(v variable) bool { return v.some == 0 || w.maybe(4) }, 1)
	if kind == api.KNone {
		return nil
	}
	lines := w.accumulated(kind, deepest)
	switch {
	case kind == api.KBool && w.maybe(3):
		lines = append(lines, w.one("S ", "R ")+place)
	case (kind == api.KBool || isRow(kind)) && w.maybe(3):
		lines = append(lines, "STN "+place)
	default:
		lines = append(lines, "ST "+place)
	}
	if again, same := w.place(func(v variable) bool { return v.kind == kind }, 1); same == kind && w.maybe(3) {
		lines = append(lines, "ST "+again)
	}
	return lines
}

// accumulated is instructions behind which something of a kind is in the accumulator.
func (w *writer) accumulated(k api.Kind, deep int) []string {
	if deep > 0 {
		switch w.pick(5) {
		case 0:
			return w.fromFunction(k, deep-1)
		case 1:
			if k == api.KBool {
				other := w.kind()
				return append(w.accumulated(other, deep-1), w.one("GT ", "GE ", "EQ ", "NE ", "LE ", "LT ")+w.atom(other, 1))
			}
		case 2, 3:
			if ops := operators(k); len(ops) > 0 {
				return w.operated(k, w.one(ops...), deep-1)
			}
		}
	}
	if (k == api.KBool || isRow(k)) && w.maybe(4) {
		return []string{"LDN " + w.atom(k, 1)}
	}
	return []string{"LD " + w.atom(k, 1)}
}

// operators is the operators that come to a kind, of it and something.
func operators(k api.Kind) []string {
	switch {
	case isInteger(k):
		return []string{"ADD", "SUB", "MUL", "DIV", "MOD"}
	case k == api.KLreal:
		return []string{"ADD", "SUB", "MUL", "DIV"}
	case k == api.KTime || k == api.KTod || k == api.KDt:
		return []string{"ADD", "SUB"}
	case k == api.KBool || isRow(k):
		return []string{"AND", "ANDN", "OR", "ORN", "XOR", "XORN", "&", "NOT"}
	}
	return nil
}

// operated is an operator behind instructions, with an operand, or with brackets.
func (w *writer) operated(k api.Kind, op string, deep int) []string {
	lines, right := w.accumulated(k, deep), k
	if k == api.KTod || k == api.KDt {
		right = api.KTime
	}
	switch {
	case op == "NOT":
		return append(lines, op)
	case op == "&" || w.pick(3) > 0:
		return append(lines, op+" "+w.atom(right, 1))
	case w.maybe(2):
		return append(lines, op+"( "+w.atom(right, 1), ")")
	}
	return append(append(append(lines, op+"("), w.accumulated(right, deep)...), ")")
}

// fromFunction is a call of a function whose first argument is in the accumulator.
func (w *writer) fromFunction(k api.Kind, deep int) []string {
	of := func(k api.Kind, call string) []string { return append(w.accumulated(k, deep), call) }
	i := slices.IndexFunc(w.functions, func(f pou) bool { return f.result.kind == k && len(f.params) > 0 && !f.params[0].isRef })
	switch n := w.pick(4); {
	case n == 0 && i >= 0:
		if rest, is := w.operands(w.functions[i].params[1:]); is {
			return of(w.functions[i].params[0].kind, strings.TrimSuffix(w.functions[i].name+" "+rest, " "))
		}
	case n == 1 && (isInteger(k) || k == api.KLreal || k == api.KTime):
		return of(k, "ABS")
	case n == 2 && (isInteger(k) || isRow(k)):
		return of(api.KBool+api.Kind(w.pick(int(api.KLword))), "TO_"+value.Word(k))
	}
	return of(k, w.one("MAX ", "MIN ")+w.atom(k, 1)+w.one("", ", "+w.atom(k, 1)))
}

// operands is operands for parameters; false, if there is no place that one can stand for.
func (w *writer) operands(params []variable) (string, bool) {
	var l []string
	for _, p := range params {
		text := ""
		if p.isRef {
			text, _ = w.place(func(v variable) bool { return v.text == p.text }, 1)
		} else {
			text = w.atom(p.kind, 1)
		}
		if text == "" {
			return "", false
		}
		l = append(l, text)
	}
	return strings.Join(l, ", "), true
}
