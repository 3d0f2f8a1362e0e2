package st

import "relay/api"

// Levels of the grammar, from the one that binds least on. What is no operation of two operands is at the last one.
const (
	levelOr    = 1
	levelXor   = 2
	levelAnd   = 3
	levelEqual = 4
	levelLess  = 5
	levelSum   = 6
	levelTerm  = 7
	levelUnary = 8
)

// rows is how operations of two operands are written, and their levels, by their numbers.
var rows = [...]struct {
	text  string
	level int
}{
	api.OpAdd: {"+", levelSum},
	api.OpSub: {"-", levelSum},
	api.OpMul: {"*", levelTerm},
	api.OpDiv: {"/", levelTerm},
	api.OpMod: {"MOD", levelTerm},
	api.OpAnd: {"AND", levelAnd},
	api.OpOr:  {"OR", levelOr},
	api.OpXor: {"XOR", levelXor},
	api.OpEq:  {"=", levelEqual},
	api.OpNe:  {"<>", levelEqual},
	api.OpLt:  {"<", levelLess},
	api.OpLe:  {"<=", levelLess},
	api.OpGt:  {">", levelLess},
	api.OpGe:  {">=", levelLess},
}

// isRow tells whether an expression of that Op is an operation of two operands.
func isRow(op int) bool { return op >= api.OpAdd && op <= api.OpGe }

// rowOp is the operation of two operands that a word is; 0, if it is none.
func rowOp(t api.Token) int {
	if t.Kind != api.TokMark && t.Kind != api.TokWord {
		return 0
	}
	if t.Text == "&" {
		return api.OpAnd
	}
	for op := api.OpAdd; op <= api.OpGe; op++ {
		if rows[op].text == t.Text {
			return op
		}
	}
	return 0
}

// levelOf is the level of an expression of that Op.
func levelOf(op int) int {
	if isRow(op) {
		return rows[op].level
	}
	return levelUnary
}
