package stdlib

import (
	"strconv"
	"strings"

	"relay/api"
	"relay/value"
)

// function is a standard function.
type function struct {
	name string
	// The formal names of as many arguments as it takes at least; if it takes further ones, they are IN with the numbers from next on.
	formals string
	next    int
	// What takes and gives go by, so that one of them serves several functions: an operation of layer 1, or a kind.
	how int
	// The kind that it gives for arguments of such kinds, KNone if it does not take them; they are as many as it takes.
	takes func(how int, kinds ...api.Kind) api.Kind
	// What it gives for values that may be, of kinds that it takes.
	gives func(how int, args ...api.Value) (api.Value, int)
}

// firstFree is the first number behind those of the functions that are no conversions.
const firstFree = 37

// functions is all but the conversions, by their numbers.
func functions() [firstFree]function {
	return [firstFree]function{
		1:  {"ADD", "IN1 IN2", 3, api.OpAdd, reckoned, reckon},
		2:  {"SUB", "IN1 IN2", 0, api.OpSub, reckoned, reckon},
		3:  {"MUL", "IN1 IN2", 3, api.OpMul, reckoned, reckon},
		4:  {"DIV", "IN1 IN2", 0, api.OpDiv, reckoned, reckon},
		5:  {"MOD", "IN1 IN2", 0, api.OpMod, reckoned, reckon},
		6:  {"AND", "IN1 IN2", 3, api.OpAnd, reckoned, reckon},
		7:  {"OR", "IN1 IN2", 3, api.OpOr, reckoned, reckon},
		8:  {"XOR", "IN1 IN2", 3, api.OpXor, reckoned, reckon},
		9:  {"NOT", "IN", 0, api.OpNot, turned, turn},
		10: {"EQ", "IN1 IN2", 3, api.OpEq, compared, compare},
		11: {"NE", "IN1 IN2", 0, api.OpNe, compared, compare},
		12: {"LT", "IN1 IN2", 3, api.OpLt, compared, compare},
		13: {"LE", "IN1 IN2", 3, api.OpLe, compared, compare},
		14: {"GT", "IN1 IN2", 3, api.OpGt, compared, compare},
		15: {"GE", "IN1 IN2", 3, api.OpGe, compared, compare},
		16: {"MOVE", "IN", 0, 0, alike, move},
		17: {"ABS", "IN", 0, 0, sized, size},
		18: {"MIN", "IN1 IN2", 3, api.OpLt, alike, outermost},
		19: {"MAX", "IN1 IN2", 3, api.OpGt, alike, outermost},
		20: {"LIMIT", "MN IN MX", 0, 0, alike, limit},
		21: {"SEL", "G IN0 IN1", 0, 0, chosenByTruth, choose},
		22: {"MUX", "K IN0", 1, 0, chosenByNumber, choose},
		23: {"SHL", "IN N", 0, 0, shifted, shiftLeft},
		24: {"SHR", "IN N", 0, 0, shifted, shiftRight},
		25: {"ROL", "IN N", 0, 0, shifted, turnLeft},
		26: {"ROR", "IN N", 0, 0, shifted, turnRight},
		27: {"LEN", "IN", 0, int(api.KInt), oneText, length},
		28: {"LEFT", "IN L", 0, int(api.KString), oneText, left},
		29: {"RIGHT", "IN L", 0, int(api.KString), oneText, right},
		30: {"MID", "IN L P", 0, int(api.KString), oneText, middle},
		31: {"CONCAT", "IN1 IN2", 3, int(api.KString), allTexts, concat},
		32: {"INSERT", "IN1 IN2 P", 0, int(api.KString), twoTexts, insert},
		33: {"DELETE", "IN L P", 0, int(api.KString), oneText, remove},
		34: {"REPLACE", "IN1 IN2 L P", 0, int(api.KString), twoTexts, replace},
		35: {"FIND", "IN1 IN2", 0, int(api.KInt), twoTexts, find},
		36: {"TRUNC", "IN", 0, int(api.KLint), cut, truncate},
	}
}

// conversion is the function that converts to a kind.
func conversion(to api.Kind) function {
	return function{toMark + value.Word(to), "IN", 0, int(to), converted, convert}
}

// counts tells whether a function takes so many arguments.
func (f function) counts(n int) bool {
	least := len(strings.Fields(f.formals))
	return least > 0 && (n == least || f.next > 0 && n > least && n <= api.MaxArgs)
}

// params is the formal names of as many arguments as a function takes.
func (f function) params(n int) []string {
	names := strings.Fields(f.formals)
	for i := f.next; len(names) < n; i++ {
		names = append(names, "IN"+strconv.Itoa(i))
	}
	return names
}

// outcome is the kind that a function gives for arguments of such kinds; KNone, if it does not take them.
func (f function) outcome(kinds []api.Kind) api.Kind {
	if !f.counts(len(kinds)) {
		return api.KNone
	}
	return f.takes(f.how, kinds...)
}
