// Package samples writes sources of projects by chance, for tests of the layers that type, compile and run them. What it writes has no fault that those layers tell ahead of a run: each expression is written for the kind that it must have. A run may well have one.
package samples

import (
	"strconv"
	"strings"

	"relay/api"
)

// Pick is a number from 0 to n - 1, by chance; n is above 0.
type Pick func(n int) int

// types is the types that all projects have.
const types = "TYPE level : INT (-5..100); high : USINT (3..9); color : (red, green, blue); short : STRING[4]; wide : ULINT (0..1000); END_TYPE\n"

// Sources is the sources of a project: types, functions, function blocks, programs, and a configuration that runs them.
func Sources(pick Pick) []string {
	w := &writer{pick: pick}
	w.globals = w.declared("G", 4+pick(6), mayBeArray)
	text := ""
	for i := range 1 + pick(3) {
		text += w.function("F" + strconv.Itoa(i))
	}
	for i := range 1 + pick(3) {
		text += w.block("B" + strconv.Itoa(i))
	}
	runs := ""
	for i := range 1 + pick(2) {
		name := "P" + strconv.Itoa(i)
		text += w.program(name)
		runs += "PROGRAM r" + name + " WITH t : " + name + "; "
	}
	config := "CONFIGURATION c VAR_GLOBAL " + w.texts(w.globals) + "END_VAR RESOURCE r ON plc TASK t (INTERVAL := T#10ms, PRIORITY := 1); " + runs + "END_RESOURCE END_CONFIGURATION\n"
	return []string{types, text, config}
}

// writer writes POUs one behind the other; each may call those ahead of it.
type writer struct {
	pick      Pick
	isMixed   bool // bodies are in all languages
	globals   []variable
	functions []pou
	blocks    []pou
	scope     []variable // what the POU that is written knows
	fors      []string   // variables of the loops around that count
	loops     int        // how many loops stand around
}

// one is one of several texts.
func (w *writer) one(l ...string) string { return l[w.pick(len(l))] }

// maybe tells yes once in n times.
func (w *writer) maybe(n int) bool { return w.pick(n) == 0 }

// pou is what can be called.
type pou struct {
	name   string
	result typed
	params []variable
	outs   []variable
}

// function writes a function.
func (w *writer) function(name string) string {
	u := pou{name: name, result: w.typed()}
	ins, refs := w.declared("A", w.pick(4), oneValue), w.declared("R", w.pick(3), oneValue)
	locals, temps := w.declared("L", 1+w.pick(4), mayBeArray), w.declared("T", w.pick(3), mayBeArray)
	u.params = append(append(u.params, ins...), referred(refs)...)
	w.scope = nil
	w.know(fixed(ins), referred(refs), locals, temps, []variable{{name: name, typed: u.result}})
	text := "FUNCTION " + name + " : " + u.result.text + section("VAR_INPUT", w.texts(ins)) + section("VAR_IN_OUT", plain(refs)) +
		section("VAR", w.texts(locals)) + section("VAR_TEMP", w.texts(temps)) + "\n" + w.code(api.PouFunction, 2+w.pick(3)) + "END_FUNCTION\n"
	w.functions = append(w.functions, u)
	return text
}

// block writes a function block.
func (w *writer) block(name string) string {
	u := pou{name: name}
	ins, refs, outs := w.declared("A", w.pick(4), oneValue), w.declared("R", w.pick(3), oneValue), w.declared("O", w.pick(4), oneValue)
	u.params = append(append(u.params, ins...), referred(refs)...)
	u.outs = outs
	w.scope = nil
	w.know(fixed(ins), referred(refs), outs)
	text := "FUNCTION_BLOCK " + name + section("VAR_INPUT", w.texts(ins)) + section("VAR_IN_OUT", plain(refs)) + section("VAR_OUTPUT", w.texts(outs)) +
		w.inner() + w.code(api.PouBlock, 2+w.pick(4)) + "END_FUNCTION_BLOCK\n"
	w.blocks = append(w.blocks, u)
	return text
}

// program writes a program.
func (w *writer) program(name string) string {
	w.scope = nil
	return "PROGRAM " + name + w.inner() + w.code(api.PouProgram, 3+w.pick(6)) + "END_PROGRAM\n"
}

// inner writes the sections that function blocks and programs have: what is kept, what is not, what they know of others.
func (w *writer) inner() string {
	locals, fixedOnes, temps := w.declared("L", 3+w.pick(8), mayBeArray), w.declared("C", w.pick(2), oneValue), w.declared("T", w.pick(3), mayBeArray)
	instances := w.instances(w.pick(4))
	var known []variable
	for _, g := range w.globals {
		if w.maybe(2) {
			known = append(known, g)
		}
	}
	w.know(locals, fixed(fixedOnes), temps, instances, known)
	word := "VAR"
	if w.isMixed {
		word = w.one("VAR", "VAR RETAIN")
	}
	return section(word, w.texts(locals)+plain(instances)) + section("VAR CONSTANT", w.texts(fixedOnes)) +
		section("VAR_TEMP", w.texts(temps)) + section("VAR_EXTERNAL", plain(known)) + "\n"
}

func (w *writer) know(lists ...[]variable) {
	for _, l := range lists {
		w.scope = append(w.scope, l...)
	}
}

// section is a section of variables.
func section(word, text string) string { return " " + word + " " + text + "END_VAR" }

// instances is instances of blocks that are known.
func (w *writer) instances(n int) []variable {
	var l []variable
	all := append(standardBlocks(), w.blocks...)
	for i := range n {
		l = append(l, variable{name: "I" + strconv.Itoa(i), block: &all[w.pick(len(all))]})
	}
	return l
}

// standardBlocks is the standard blocks with their inputs and outputs.
func standardBlocks() []pou {
	var l []pou
	for _, s := range [...]string{
		"SR S1 B R B > Q1 B", "RS S B R1 B > Q1 B", "R_TRIG CLK B > Q B", "F_TRIG CLK B > Q B",
		"CTU CU B R B PV I > Q B CV I", "CTD CD B LD B PV I > Q B CV I", "CTUD CU B CD B R B LD B PV I > QU B QD B CV I",
		"TP IN B PT T > Q B ET T", "TON IN B PT T > Q B ET T", "TOF IN B PT T > Q B ET T",
	} {
		ins, outs, _ := strings.Cut(s, " > ")
		name, ins, _ := strings.Cut(ins, " ")
		l = append(l, pou{name: name, params: formals(ins), outs: formals(outs)})
	}
	return l
}

// formals is variables of blocks, each with a letter of its kind.
func formals(text string) []variable {
	var l []variable
	words := strings.Fields(text)
	for i := 0; i < len(words); i += 2 {
		k := api.KBool
		switch words[i+1] {
		case "I":
			k = api.KInt
		case "T":
			k = api.KTime
		}
		l = append(l, variable{name: words[i], typed: simple(k)})
	}
	return l
}
