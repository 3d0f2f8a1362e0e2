package samples

import (
	"strconv"

	"relay/api"
	"relay/value"
)

// Projects is the sources of a project with bodies in all languages, with inputs and outputs, and with several tasks.
func Projects(pick Pick) []string {
	w := &writer{pick: pick, isMixed: true}
	w.globals = append(w.declared("G", 2+pick(5), mayBeArray), w.addressed()...)
	config := "CONFIGURATION c " + section(w.one("VAR_GLOBAL", "VAR_GLOBAL RETAIN"), w.texts(w.globals))
	var texts []string
	for i := range pick(3) {
		texts = append(texts, w.function("F"+strconv.Itoa(i)))
	}
	for i := range pick(3) {
		texts = append(texts, w.block("B"+strconv.Itoa(i)))
	}
	programs := 1 + pick(3)
	for i := range programs {
		texts = append(texts, w.program("P"+strconv.Itoa(i)))
	}
	config += " RESOURCE r ON plc " + w.tasks(programs) + "END_RESOURCE END_CONFIGURATION\n"
	return w.parted(append(texts, config))
}

// parted is types, and texts in some order in some sources behind them.
func (w *writer) parted(texts []string) []string {
	w.shuffle(texts)
	l := []string{types}
	for _, s := range texts {
		if w.maybe(2) {
			l = append(l, "")
		}
		l[len(l)-1] += s
	}
	return l
}

// addressed is globals that have addresses, and some that tasks may wait for.
func (w *writer) addressed() []variable {
	l := []variable{{name: "B0", typed: simple(api.KBool)}, {name: "X0", typed: simple(api.KBool), addr: "%IX0.0"}, {name: "Q0", typed: simple(api.KBool), addr: "%QX0.0"}}
	for i := range w.pick(6) {
		k := api.KBool + api.Kind(w.pick(int(api.KLword)))
		letter := w.one("I", "I", "Q", "Q", "M")
		l = append(l, variable{name: "D" + strconv.Itoa(i), typed: simple(k), addr: address(letter, k, i+1)})
	}
	return l
}

// address is an address of a letter for a kind, at a number.
func address(letter string, k api.Kind, number int) string {
	text := "%" + letter + sizeLetter(k) + strconv.Itoa(number)
	if k == api.KBool {
		text += ".7"
	}
	return text
}

func sizeLetter(k api.Kind) string {
	switch k {
	case api.KBool:
		return "X"
	case api.KSint, api.KUsint, api.KByte:
		return "B"
	case api.KInt, api.KUint, api.KWord:
		return "W"
	case api.KDint, api.KUdint, api.KDword:
		return "D"
	}
	return "L"
}

// tasks is tasks, and instances of so many programs, some of which are never run.
func (w *writer) tasks(programs int) string {
	text, n := "", 1+w.pick(4)
	for i := range n {
		trigger := "INTERVAL := T#" + w.one("1ms", "3ms", "4ms", "10ms", "7ms")
		if w.maybe(3) {
			trigger = "SINGLE := " + w.one("B0", "X0", "Q0")
		}
		text += "TASK t" + strconv.Itoa(i) + " (" + trigger + ", PRIORITY := " + strconv.Itoa(w.pick(3)) + "); "
	}
	for i := range programs + w.pick(2) {
		with := " WITH t" + strconv.Itoa(w.pick(n))
		if w.maybe(8) {
			with = ""
		}
		text += "PROGRAM r" + strconv.Itoa(i) + with + " : P" + strconv.Itoa(i%programs) + "; "
	}
	return text
}

// code is the body of a POU: statements, or, in a project in all languages, whatever says something.
func (w *writer) code(what, n int) string {
	if !w.isMixed {
		return w.body(n)
	}
	switch w.pick(6) {
	case 0:
		return "{IL}\n" + w.list(n)
	case 1:
		return "{LD}\n" + w.ladder(n)
	case 2:
		return "{FBD}\n" + w.networks()
	case 3:
		// Functions have no instances of timers, which charts need.
		if what != api.PouFunction {
			return "{SFC}\n" + w.chart()
		}
	}
	return w.one("", "{ST}\n") + w.body(n)
}

// Script is entries for a resource of such cells.
func Script(pick Pick, cells []api.Cell, n int) []api.Entry {
	var l []api.Entry
	for range n {
		e := api.Entry{Advance: 1000000 * pick(12)}
		for _, c := range cells {
			if c.Dir == 1 && pick(3) == 0 {
				e.Inputs = append(e.Inputs, api.Input{Addr: c.Addr, Value: some(pick, c)})
			}
		}
		l = append(l, e)
	}
	return l
}

// some is a value for an input, mostly a small number.
func some(pick Pick, c api.Cell) api.Value {
	n := pick(4) - 1
	if pick(4) == 0 {
		n = pick(300) - 150
	}
	if v, fault := value.Int(c.Kind, n); fault == api.FaultNone {
		return v
	}
	return value.Zero(c.Kind)
}
