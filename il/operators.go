package il

import (
	"strings"

	"relay/api"
)

// What operators want.
const (
	wantsNothing  = 0
	wantsOperand  = 1
	wantsPlace    = 2
	wantsOpen     = 3 // an operand; or a bracket, and perhaps an operand
	wantsName     = 4
	wantsCall     = 5
	wantsOperands = 6 // any number of them
)

// The Op of a function's name; those that have a text of their own in print.
const (
	opFunction = "FN"
	opJump     = "JMP"
	opCall     = "CAL"
)

// operators is all of them but functions' names: what they want, and what may end them: N; or C and CN.
var operators = [...]struct {
	op    string
	wants int
	ends  string
}{
	{"LD", wantsOperand, "N"},
	{"ST", wantsPlace, "N"},
	{"S", wantsPlace, ""},
	{"R", wantsPlace, ""},
	{"AND", wantsOpen, "N"},
	{"OR", wantsOpen, "N"},
	{"XOR", wantsOpen, "N"},
	{"ADD", wantsOpen, ""},
	{"SUB", wantsOpen, ""},
	{"MUL", wantsOpen, ""},
	{"DIV", wantsOpen, ""},
	{"MOD", wantsOpen, ""},
	{"GT", wantsOpen, ""},
	{"GE", wantsOpen, ""},
	{"EQ", wantsOpen, ""},
	{"NE", wantsOpen, ""},
	{"LE", wantsOpen, ""},
	{"LT", wantsOpen, ""},
	{"NOT", wantsNothing, ""},
	{")", wantsNothing, ""},
	{opJump, wantsName, "C"},
	{opCall, wantsCall, "C"},
	{"RET", wantsNothing, "C"},
}

// begun is the instruction that a word begins, and what that wants; false, if it begins none.
func begun(t api.Token) (api.IlInstr, int, bool) {
	if t.Kind != api.TokName && t.Kind != api.TokWord && t.Kind != api.TokMark {
		return api.IlInstr{}, 0, false
	}
	text := t.Text
	if text == "&" {
		text = "AND"
	}
	for _, x := range operators {
		end, is := strings.CutPrefix(text, x.op)
		if is && mayEnd(x.ends, end) {
			return api.IlInstr{Op: x.op, Not: strings.HasSuffix(end, "N"), Cond: strings.HasPrefix(end, "C")}, x.wants, true
		}
	}
	if t.Kind == api.TokName {
		return api.IlInstr{Op: opFunction, Name: text}, wantsOperands, true
	}
	return api.IlInstr{}, 0, false
}

// mayEnd tells whether an operator may have an end, by what the table says of it.
func mayEnd(ends, end string) bool {
	return end == "" || end == ends || ends == "C" && end == "CN"
}

// word is the operator of an instruction, as it is written.
func word(in api.IlInstr) string {
	text := in.Op
	if in.Op == opFunction {
		text = in.Name
	}
	if in.Cond {
		text += "C"
	}
	if in.Not {
		text += "N"
	}
	if in.Open {
		text += "("
	}
	return text
}
