package listing_test

import (
	"reflect"
	"testing"

	"relay/api"
	"relay/listing"
)

// A code's text is read as that code.
func TestThereAndBack(t *testing.T) {
	whole := api.Value{Kind: api.KInt, Bits: 1}
	f := api.Flat{
		Ops: []api.Op{
			{Code: api.IrLoad, B: 1, C: 3}, {Code: api.IrConst, A: 1, Value: whole}, {Code: api.IrDo, A: 2, C: 1, D: api.OpAdd},
			{Code: api.IrTurn, A: 3, B: 2, D: api.OpNot}, {Code: api.IrConv, A: 4, D: int(api.KLint)}, {Code: api.IrCheck, A: 4, Lo: -5, Hi: 9},
			{Code: api.IrConst, Value: api.Value{Kind: api.KBool, Bits: 1}}, {Code: api.IrConst, Value: api.Value{Kind: api.KBool}},
			{Code: api.IrConst, Value: api.Value{Kind: api.KString, Text: "ab"}}, {Code: api.IrConst, Value: api.Value{Kind: api.KString}},
			{Code: api.IrConst, Value: api.Value{Kind: api.KUlint, Bits: 1<<64 - 1}}, {Code: api.IrConst, Value: api.Value{Kind: api.KSint, Bits: 1<<64 - 5}},
			{Code: api.IrConst, Value: api.Value{Kind: api.KRef, Bits: 3}}, {Code: api.IrStd, D: 7, C: 2}, {Code: api.IrUnless, A: 3, B: 1}, {Code: api.IrReturn},
		},
		Loops: []api.Loop{{Head: 1, End: 4, Times: 3}},
	}
	want := "load B1 C3; const A1 INT#1; do A2 C1 add; turn A3 B2 not; conv A4 LINT; check A4 L-5 H9; const TRUE; const FALSE; const STRING'ab; const STRING#0; " +
		"const ULINT#18446744073709551615; const SINT#-5; const REF#3; std C2 D7; unless A3 B1; return; loop 1 4 3"
	if got := listing.Text(f); got != want {
		t.Error(got)
	}
	if got, is := listing.Read(want); !is || !reflect.DeepEqual(got, f) {
		t.Error(got, is)
	}
}

func TestOdd(t *testing.T) {
	if got := listing.Text(api.Flat{Ops: []api.Op{{Code: 99, A: -1}, {Code: api.IrDo, D: 77}, {Code: api.IrConv, D: 20}}}); got != "?99 A-1; do D77; conv D20" {
		t.Error(got)
	}
	for _, text := range []string{"", "nothing", "load X1", "load A", "load Ax", "const INT#x", "loop 1 2", "loop 1 2 x", "return;return"} {
		if f, is := listing.Read(text); is || f.Ops != nil || f.Loops != nil {
			t.Error(text, f)
		}
	}
}
