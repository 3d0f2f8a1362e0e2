package decl_test

import (
	"math"
	"strings"
	"testing"

	"relay/api"
	"relay/decl"
	"relay/value"
)

// P4.2: types by themselves.
func TestType(t *testing.T) {
	names := []api.Named{
		{Name: "LEVEL", Type: api.Type{Kind: api.KInt, Sub: true, Hi: 100}}, {Name: "LEVEL", Type: api.Type{Kind: api.KBool}},
		{Name: "ROW", Type: api.Type{Kind: api.KInt, Array: true, From: 1, To: 2}}, {Name: "TIMER", Type: api.Type{Block: "TON"}}, {Name: "low", Type: api.Type{Kind: api.KBool}},
	}
	for src, want := range map[string]api.Type{
		"level":        {Kind: api.KInt, Sub: true, Hi: 100},
		" row (* x *)": {Kind: api.KInt, Array: true, From: 1, To: 2},
		"Timer":        {Block: "TON"},
		"other":        {Block: "OTHER"},
		"low":          {Block: "LOW"},
		"TON":          {Block: "TON"},
		"int (-5..5)":  {Kind: api.KInt, Sub: true, Lo: -5, Hi: 5},
		"SINT (0..0)":  {Kind: api.KSint, Sub: true},
		"LINT (-9223372036854775808..9223372036854775807)": {Kind: api.KLint, Sub: true, Lo: math.MinInt64, Hi: math.MaxInt64},
		"ULINT (0..9223372036854775807)":                   {Kind: api.KUlint, Sub: true, Hi: math.MaxInt64},
		"STRING":                                           {Kind: api.KString},
		"string [1]":                                       {Kind: api.KString, Max: 1},
		"STRING[254]":                                      {Kind: api.KString, Max: 254},
		"ARRAY [1..256] OF level":                          {Kind: api.KInt, Sub: true, Hi: 100, Array: true, From: 1, To: 256},
		"ARRAY [-2147483648..-2147483648] OF STRING [9]":   {Kind: api.KString, Max: 9, Array: true, From: math.MinInt32, To: math.MinInt32},
		"ARRAY [2147483392..2147483647] OF LREAL":          {Kind: api.KLreal, Array: true, From: 2147483392, To: math.MaxInt32},
		"array[0..-0]of timer":                             {Block: "TON", Array: true},
	} {
		if got, err := decl.Type(src, names); got != want || err != nil {
			t.Errorf("%q: %+v %v", src, got, err)
		}
	}
	for k := api.KBool; k <= api.KString; k++ {
		if got, err := decl.Type(strings.ToLower(value.Word(k)), nil); got != (api.Type{Kind: k}) || err != nil {
			t.Error(k, got, err)
		}
	}
	for marked, why := range map[string]api.Errno{
		"¦":                           api.ErrToken,
		"  ¦":                         api.ErrToken,
		"(* x *)¦":                    api.ErrToken,
		"INT ¦;":                      api.ErrToken,
		"INT (0..1) ¦x":               api.ErrToken,
		"¦5":                          api.ErrToken,
		"¦(a, b)":                     api.ErrToken,
		"¦:":                          api.ErrToken,
		"INT (0..¦":                   api.ErrToken,
		"ARRAY [1..2] OF¦":            api.ErrToken,
		"ARRAY [1..2] OF ¦other":      api.ErrSpec,
		"ARRAY [1..2] OF ¦row":        api.ErrSpec,
		"¦ARRAY [1..257] OF INT":      api.ErrSpec,
		"¦BOOL (0..1)":                api.ErrSpec,
		"¦STRING [255]":               api.ErrSpec,
		"¦STRING [255] ;":             api.ErrSpec,
		"level ¦level":                api.ErrToken,
		"INT ¦#":                      api.ErrByte,
		"; ¦12a":                      api.ErrNumber,
		"; ¦'a":                       api.ErrOpen,
		"¦" + strings.Repeat("x", 25): api.ErrName,
		"¦" + strings.Repeat(" ", api.MaxSource+1): api.ErrLong,
	} {
		ahead, behind, _ := strings.Cut(marked, "¦")
		if got, err := decl.Type(ahead+behind, names); got != (api.Type{}) || err != error(api.Fault{At: len(ahead), Why: why}) {
			t.Errorf("%.100q: %+v %v", marked, got, err)
		}
	}
	if names[0].Name != "LEVEL" || names[0].Type.Hi != 100 {
		t.Error(names)
	}
}

// P4.3: cells.
func TestCells(t *testing.T) {
	for _, x := range []struct {
		t api.Type
		n int
	}{
		{api.Type{}, 1}, {api.Type{Kind: api.KInt}, 1}, {api.Type{Kind: api.KString, Max: 5}, 1}, {api.Type{Block: "TON"}, 0}, {api.Type{From: 1, To: 5}, 1}, {api.Type{Kind: 99}, 1},
		{api.Type{Array: true}, 1}, {api.Type{Array: true, From: 1, To: 256}, 256}, {api.Type{Array: true, From: 1, To: 257}, 0}, {api.Type{Array: true, From: 1, To: 0}, 0}, {api.Type{Array: true, From: 5, To: -5}, 0}, {api.Type{Array: true, From: -5, To: 5}, 11},
		{api.Type{Array: true, From: math.MinInt64, To: math.MaxInt64}, 0}, {api.Type{Array: true, From: math.MaxInt64, To: math.MinInt64}, 0}, {api.Type{Array: true, From: math.MinInt64, To: math.MinInt64}, 1}, {api.Type{Array: true, From: math.MaxInt64 - 255, To: math.MaxInt64}, 256}, {api.Type{Array: true, From: math.MinInt64, To: math.MinInt64 + 255}, 256}, {api.Type{Array: true, From: math.MinInt64, To: math.MinInt64 + 256}, 0}, {api.Type{Array: true, From: 0, To: math.MaxInt64}, 0}, {api.Type{Array: true, From: -1, To: math.MaxInt64}, 0},
		{api.Type{Array: true, Block: "TON", From: 1, To: 3}, 3},
	} {
		if n := decl.Cells(x.t); n != x.n {
			t.Error(x, n)
		}
	}
}
