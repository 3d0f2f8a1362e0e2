package decl_test

import (
	"math"
	"reflect"
	"testing"

	"relay/api"
	"relay/value"
)

// 4.2: what each value makes.
func TestInit(t *testing.T) {
	const head = "TYPE level : INT (0..100); e : (red, green, blue); END_TYPE PROGRAM p VAR x : "
	one := func(k api.Kind, bits uint64) []api.Value { return []api.Value{{Kind: k, Bits: bits}} }
	for s, want := range map[string][]api.Value{
		"INT":                                    nil,
		"INT := 5":                               one(api.KInt, 5),
		"INT := -5":                              one(api.KInt, math.MaxUint64-4),
		"INT := -32768":                          one(api.KInt, math.MaxUint64-32767),
		"INT := -0":                              one(api.KInt, 0),
		"INT := 16#7FFF":                         one(api.KInt, 32767),
		"INT := INT#-5":                          one(api.KInt, math.MaxUint64-4),
		"INT := blue":                            one(api.KInt, 2),
		"LEVEL := Green":                         one(api.KInt, 1),
		"LEVEL := 100":                           one(api.KInt, 100),
		"e := red":                               one(api.KInt, 0),
		"e := 2":                                 one(api.KInt, 2),
		"USINT := -0":                            one(api.KUsint, 0),
		"BOOL := 1":                              one(api.KBool, 1),
		"BOOL := -0":                             one(api.KBool, 0),
		"BOOL := TRUE":                           one(api.KBool, 1),
		"BOOL := BOOL#0":                         one(api.KBool, 0),
		"BYTE := 255":                            one(api.KByte, 255),
		"WORD := WORD#16#FFFF":                   one(api.KWord, 65535),
		"LINT := 9223372036854775807":            one(api.KLint, math.MaxInt64),
		"LINT := -9223372036854775807":           one(api.KLint, 1<<63+1),
		"LINT := LINT#-9223372036854775808":      one(api.KLint, 1<<63),
		"ULINT := 18446744073709551615":          one(api.KUlint, math.MaxUint64),
		"ULINT := 9223372036854775808":           one(api.KUlint, 1<<63),
		"LWORD := 9223372036854775808":           one(api.KLword, 1<<63),
		"LREAL := 5":                             {value.Lreal(5)},
		"LREAL := -5":                            {value.Lreal(-5)},
		"LREAL := -0":                            one(api.KLreal, 0),
		"LREAL := -0.0":                          one(api.KLreal, 1<<63),
		"LREAL := LREAL#-0":                      one(api.KLreal, 1<<63),
		"LREAL := -LREAL#-2.5":                   {value.Lreal(2.5)},
		"LREAL := - 2.5":                         {value.Lreal(-2.5)},
		"LREAL := 9007199254740992":              {value.Lreal(1 << 53)},
		"LREAL := -9007199254740992":             {value.Lreal(-1 << 53)},
		"TIME := T#-1s":                          one(api.KTime, math.MaxUint64-999999999),
		"DATE := D#1970-01-02":                   one(api.KDate, 86400000000000),
		"STRING := 'a$'b'":                       {{Kind: api.KString, Text: "a'b"}},
		"STRING [3] := 'abc'":                    {{Kind: api.KString, Text: "abc"}},
		"STRING [1] := STRING#''":                {{Kind: api.KString}},
		"ARRAY [1..3] OF INT := [1, -2]":         {{Kind: api.KInt, Bits: 1}, {Kind: api.KInt, Bits: math.MaxUint64 - 1}},
		"ARRAY [-1..0] OF LEVEL := [green, 100]": {{Kind: api.KInt, Bits: 1}, {Kind: api.KInt, Bits: 100}},
		"ARRAY [5..5] OF STRING [1] := ['x']":    {{Kind: api.KString, Text: "x"}},
		"ARRAY [0..2] OF ULINT := [18446744073709551615]":       one(api.KUlint, math.MaxUint64),
		"DINT (-5..-1) := -5":                                   one(api.KDint, math.MaxUint64-4),
		"ARRAY [1..2] OF BOOL := [TRUE, 1]":                     {value.Bool(true), value.Bool(true)},
		"ULINT (0..9223372036854775807) := 16#7FFFFFFFFFFFFFFF": one(api.KUlint, math.MaxInt64),
	} {
		p := parsed(t, head+s+"; END_VAR END_PROGRAM")
		if got := p.Pous[0].Vars[0].Init; !reflect.DeepEqual(got, want) && len(got)+len(want) > 0 {
			t.Error(s, got, want)
		}
	}
	for _, s := range []string{
		"INT := ¦32768", "INT := ¦-32769", "LEVEL := ¦101", "LEVEL := ¦-1", "e := ¦3", "INT := ¦SINT#5", "INT := ¦TRUE", "INT := ¦'a'", "INT := ¦5.0", "INT := ¦-5.0", "INT := ¦-INT#5", "INT := ¦-TRUE", "INT := ¦-'a'", "INT := ¦-T#1s", "SINT := ¦red", "DINT := ¦red", "BOOL := ¦red", "STRING := ¦red",
		"USINT := ¦-1", "USINT := ¦256", "BYTE := ¦-1", "BYTE := ¦256", "BYTE := ¦USINT#5", "BOOL := ¦2", "BOOL := ¦-1", "BOOL := ¦-TRUE", "LINT := ¦9223372036854775808", "LINT := ¦-9223372036854775808", "LINT := ¦-9223372036854775809", "ULINT := ¦-9223372036854775808", "ULINT := ¦-1", "ULINT := ¦-18446744073709551615", "LWORD := ¦-9223372036854775808", "UDINT := ¦18446744073709551615", "BOOL := ¦9223372036854775809",
		"ULINT (0..10) := ¦18446744073709551615", "ULINT (0..10) := ¦11",
		"LREAL := ¦9007199254740993", "LREAL := ¦-9007199254740993", "LREAL := ¦18446744073709551615", "LREAL := ¦-9223372036854775808", "LREAL := ¦INT#5", "LREAL := ¦-INT#5", "LREAL := ¦TRUE",
		"TIME := ¦5", "TIME := ¦0", "TIME := ¦-0", "TIME := ¦-T#1s", "TIME := ¦LINT#5", "TIME := ¦9223372036854775808", "DATE := ¦0", "TOD := ¦0", "DT := ¦0", "DT := ¦D#1970-01-01",
		"STRING := ¦5", "STRING [2] := ¦'abc'", "STRING := ¦-'a'", "STRING := ¦18446744073709551615",
		"ARRAY [1..2] OF INT := ¦5", "ARRAY [1..2] OF INT := ¦-5", "ARRAY [1..2] OF INT := ¦nothing", "ARRAY [1..2] OF INT := ¦red 5", "INT := [¦5]", "INT := [¦nothing]", "INT := [¦-5 5", "INT := [¦5, nothing]",
		"ARRAY [1..2] OF INT := [1, 2, ¦3]", "ARRAY [1..2] OF INT := [1, 2, ¦nothing]", "ARRAY [1..2] OF INT := [1, 2, ¦-3 5", "ARRAY [1..2] OF INT := [1, ¦32768]", "ARRAY [1..2] OF LEVEL := [1, ¦-1]", "ARRAY [1..1] OF LEVEL := [¦101, 5, 5]", "ARRAY [1..2] OF STRING [1] := ['a', ¦'bc']",
		"TON ¦:= 5", "TON ¦:= [", "nothing ¦:= nothing",
	} {
		fault(t, head+s+"; END_VAR", api.ErrInit)
	}
	for _, s := range []string{"INT := ¦nothing", "INT := ¦level", "INT := ¦e", "INT := ¦p", "INT := ¦x", "INT := ¦nothing 5", "STRING := ¦nothing", "LREAL := ¦nothing", "ARRAY [1..2] OF INT := [¦nothing]", "ARRAY [1..2] OF INT := [1, ¦nothing, 3]"} {
		fault(t, head+s+"; END_VAR", api.ErrUnknown)
	}
	for _, s := range []string{"VAR_IN_OUT x : INT ¦:= 5", "VAR_EXTERNAL x : INT ¦:= nothing", "VAR_IN_OUT x : INT ¦:=", "VAR_EXTERNAL CONSTANT x : ARRAY [1..2] OF INT ¦:= 5"} {
		fault(t, "PROGRAM p "+s, api.ErrInit)
	}
	// A name is known behind its declaration alone.
	fault(t, "PROGRAM p VAR x : INT := ¦red; END_VAR END_PROGRAM TYPE e : (red); END_TYPE", api.ErrUnknown)
}

// What is answered is memory of its own: each variable has its own values.
func TestOwnMemory(t *testing.T) {
	const src = "PROGRAM p VAR a, b, c : ARRAY [1..4] OF INT := [1, 2, 3]; END_VAR END_PROGRAM CONFIGURATION c VAR_GLOBAL x, y : INT := 5; END_VAR RESOURCE r ON p TASK t (INTERVAL := T#1s, PRIORITY := 1); END_RESOURCE END_CONFIGURATION"
	p, q := parsed(t, src), parsed(t, src)
	spoil := func(l []api.Value) {
		l = l[:cap(l)]
		for i := range l {
			l[i] = api.Value{Kind: 99}
		}
	}
	vars := p.Pous[0].Vars
	spoil(vars[0].Init)
	spoil(p.Globals[0].Init)
	for _, v := range []api.Var{vars[1], vars[2], q.Pous[0].Vars[0]} {
		if !reflect.DeepEqual(v.Init, []api.Value{{Kind: api.KInt, Bits: 1}, {Kind: api.KInt, Bits: 2}, {Kind: api.KInt, Bits: 3}}) {
			t.Error(v)
		}
	}
	if p.Globals[1].Init[0].Bits != 5 || q.Globals[0].Init[0].Bits != 5 {
		t.Error(p.Globals, q.Globals)
	}
	spoilt := p.Tasks[:cap(p.Tasks)]
	for i := range spoilt {
		spoilt[i] = api.Task{}
	}
	if q.Tasks[0].Name != "T" {
		t.Error(q)
	}
}
