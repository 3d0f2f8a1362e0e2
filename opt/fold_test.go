package opt_test

import (
	"testing"

	"relay/api"
	"relay/ir"
	"relay/opt"
	"relay/value"
)

func number(k api.Kind, n int) api.Value { return api.Value{Kind: k, Bits: uint64(n)} }

func text(s string) api.Value { return api.Value{Kind: api.KString, Text: s} }

// P18.1: what an instruction gives over such values.
func TestFold(t *testing.T) {
	two, three, yes, no := number(api.KInt, 2), number(api.KInt, 3), value.Bool(true), value.Bool(false)
	of := func(l ...api.Value) []api.Value { return l }
	for _, x := range []struct {
		o     api.Op
		known []api.Value
		want  api.Value
	}{
		{api.Op{Code: api.IrConst, A: 4, Value: two}, nil, two},
		{api.Op{Code: api.IrConst, Value: text("ab")}, of(), text("ab")},
		// What an IrConst has is not asked, only told.
		{api.Op{Code: api.IrConst, Value: number(api.KRef, 5)}, nil, number(api.KRef, 5)},
		{api.Op{Code: api.IrMove, A: 1, B: 2}, of(three), three},
		{api.Op{Code: api.IrMove, A: 1, B: 1}, of(text("x")), text("x")},
		{api.Op{Code: api.IrDo, B: 1, C: 2, D: api.OpAdd}, of(two, three), number(api.KInt, 5)},
		{api.Op{Code: api.IrDo, B: 1, C: 2, D: api.OpSub}, of(two, three), number(api.KInt, -1)},
		{api.Op{Code: api.IrDo, B: 2, C: 1, D: api.OpSub}, of(three, two), number(api.KInt, 1)},
		{api.Op{Code: api.IrDo, B: 1, C: 2, D: api.OpLt}, of(two, three), yes},
		{api.Op{Code: api.IrDo, B: 1, C: 2, D: api.OpAnd}, of(yes, no), no},
		{api.Op{Code: api.IrDo, B: 1, C: 2, D: api.OpMul}, of(number(api.KTime, 7), number(api.KLint, 3)), number(api.KTime, 21)},
		// One register read twice has one value.
		{api.Op{Code: api.IrDo, B: 7, C: 7, D: api.OpMul}, of(three), number(api.KInt, 9)},
		{api.Op{Code: api.IrDo, D: api.OpSub}, of(three), number(api.KInt, 0)},
		{api.Op{Code: api.IrTurn, D: api.OpNeg}, of(two), number(api.KInt, -2)},
		{api.Op{Code: api.IrTurn, D: api.OpNot}, of(yes), no},
		{api.Op{Code: api.IrTurn, D: api.OpNot}, of(number(api.KByte, 1)), number(api.KByte, 254)},
		{api.Op{Code: api.IrConv, D: int(api.KDint)}, of(number(api.KInt, -2)), number(api.KDint, -2)},
		{api.Op{Code: api.IrConv, D: int(api.KString)}, of(two), text("2")},
		{api.Op{Code: api.IrConv, D: int(api.KInt)}, of(value.Lreal(2.5)), two},
		{api.Op{Code: api.IrConv, D: int(api.KInt)}, of(two), two},
	} {
		if v, is := opt.Fold(x.o, x.known); !is || v != x.want {
			t.Error(x.o, x.known, v, is)
		}
	}
}

// P18.1: the zero value and false.
func TestFoldNothing(t *testing.T) {
	two, most := number(api.KInt, 2), number(api.KInt, 32767)
	odd := []api.Value{{}, number(api.KRef, 1), number(api.KInt, 40000), {Kind: api.KBool, Bits: 2}, {Kind: api.KInt, Text: "x"}}
	of := func(l ...api.Value) []api.Value { return l }
	sum := api.Op{Code: api.IrDo, B: 1, C: 2, D: api.OpAdd}
	type row struct {
		o     api.Op
		known []api.Value
	}
	rows := []row{
		// A fault
		{sum, of(most, two)}, {sum, of(two, number(api.KDint, 2))}, {sum, of(text("a"), text("b"))},
		{api.Op{Code: api.IrDo, B: 1, C: 2, D: api.OpDiv}, of(two, number(api.KInt, 0))},
		{api.Op{Code: api.IrDo, B: 1, C: 1, D: api.OpDiv}, of(number(api.KInt, 0))},
		{api.Op{Code: api.IrTurn, D: api.OpNeg}, of(number(api.KInt, -32768))}, {api.Op{Code: api.IrTurn, D: api.OpNot}, of(two)},
		{api.Op{Code: api.IrConv, D: int(api.KByte)}, of(number(api.KInt, -1))}, {api.Op{Code: api.IrConv, D: int(api.KBool)}, of(text("x"))},
		// Operations and kinds that are none
		{api.Op{Code: api.IrDo, B: 1, C: 2, D: api.OpNeg}, of(two, two)}, {api.Op{Code: api.IrDo, B: 1, C: 2}, of(two, two)}, {api.Op{Code: api.IrTurn, D: api.OpAdd}, of(two)},
		{api.Op{Code: api.IrConv}, of(two)}, {api.Op{Code: api.IrConv, D: int(api.KRef)}, of(two)}, {api.Op{Code: api.IrConv, D: -1}, of(two)},
		{api.Op{Code: api.IrConv, D: 256 + int(api.KDint)}, of(two)}, {api.Op{Code: api.IrConv, D: int(api.KDint) - 256}, of(two)}, {api.Op{Code: api.IrConv, D: 1<<40 + int(api.KDint)}, of(two)},
		{api.Op{Code: api.IrDo, B: 1, C: 2, D: 1<<40 + api.OpAdd}, of(two, two)}, {api.Op{Code: api.IrTurn, D: 256 + api.OpNeg}, of(two)},
		// Too few values, and too many
		{sum, nil}, {sum, of(two)}, {sum, of(two, two, two)}, {api.Op{Code: api.IrDo, B: 1, C: 1, D: api.OpAdd}, of(two, two)}, {api.Op{Code: api.IrDo, B: 1, C: 1, D: api.OpAdd}, nil},
		{api.Op{Code: api.IrConst, Value: two}, of(two)}, {api.Op{Code: api.IrMove}, nil}, {api.Op{Code: api.IrMove}, of(two, two)},
		{api.Op{Code: api.IrTurn, D: api.OpNeg}, nil}, {api.Op{Code: api.IrTurn, D: api.OpNeg}, of(two, two)},
		{api.Op{Code: api.IrConv, D: int(api.KDint)}, nil}, {api.Op{Code: api.IrConv, D: int(api.KDint)}, of(two, two)},
	}
	// A value that may not be
	for _, v := range odd {
		rows = append(rows, row{sum, of(v, two)}, row{sum, of(two, v)}, row{api.Op{Code: api.IrMove, B: 1}, of(v)},
			row{api.Op{Code: api.IrTurn, D: api.OpNeg}, of(v)}, row{api.Op{Code: api.IrConv, D: int(v.Kind)}, of(v)},
			row{api.Op{Code: api.IrDo, D: api.OpEq}, of(v)})
	}
	// Another instruction
	for code := -1; code <= api.NumIr; code++ {
		switch code {
		case api.IrConst, api.IrMove, api.IrDo, api.IrTurn, api.IrConv:
			continue
		}
		o := api.Op{Code: code, A: 1, B: 2, C: 3, D: 4, Value: two}
		rows = append(rows, row{o, of(two, two)[:len(ir.Uses(o))]})
	}
	for _, x := range rows {
		if v, is := opt.Fold(x.o, x.known); is || v != (api.Value{}) {
			t.Error(x.o, x.known, v, is)
		}
	}
}
