package stdlib

import (
	"strings"

	"relay/api"
	"relay/value"
)

// length: no text is longer than an INT can tell.
func length(_ int, args ...api.Value) (api.Value, int) {
	return value.Int(api.KInt, len(args[0].Text))
}

func left(_ int, args ...api.Value) (api.Value, int) {
	s, n := args[0].Text, whole(args[1])
	if n < 0 {
		return api.Value{}, api.FaultRange
	}
	return value.Text(s[:min(n, len(s))])
}

func right(_ int, args ...api.Value) (api.Value, int) {
	s, n := args[0].Text, whole(args[1])
	if n < 0 {
		return api.Value{}, api.FaultRange
	}
	return value.Text(s[len(s)-min(n, len(s)):])
}

func middle(_ int, args ...api.Value) (api.Value, int) {
	s := args[0].Text
	from, to, fault := piece(s, args[1], args[2])
	if fault != api.FaultNone {
		return api.Value{}, fault
	}
	return value.Text(s[from:to])
}

func remove(_ int, args ...api.Value) (api.Value, int) {
	s := args[0].Text
	from, to, fault := piece(s, args[1], args[2])
	if fault != api.FaultNone {
		return api.Value{}, fault
	}
	return value.Text(s[:from] + s[to:])
}

func replace(_ int, args ...api.Value) (api.Value, int) {
	s, in := args[0].Text, args[1].Text
	from, to, fault := piece(s, args[2], args[3])
	if fault != api.FaultNone {
		return api.Value{}, fault
	}
	// One place behind the end there is nothing to take out, but a place to put something in.
	if whole(args[3])-1 > len(s) {
		return api.Value{}, api.FaultRange
	}
	return value.Text(s[:from] + in + s[to:])
}

// piece is where the bytes that there are of so many from a place on begin and end; places count from 1.
func piece(s string, many, place api.Value) (from, to, fault int) {
	n, p := whole(many), whole(place)
	if n < 0 || p < 1 {
		return 0, 0, api.FaultRange
	}
	from = min(p-1, len(s))
	// Not from and n: their sum may be greater than all ints.
	return from, from + min(n, len(s)-from), api.FaultNone
}

func concat(_ int, args ...api.Value) (api.Value, int) {
	var s strings.Builder
	for _, v := range args {
		s.WriteString(v.Text)
	}
	return value.Text(s.String())
}

func insert(_ int, args ...api.Value) (api.Value, int) {
	s, in, p := args[0].Text, args[1].Text, whole(args[2])
	if p < 0 || p > len(s) {
		return api.Value{}, api.FaultRange
	}
	return value.Text(s[:p] + in + s[p:])
}

func find(_ int, args ...api.Value) (api.Value, int) {
	return value.Int(api.KInt, strings.Index(args[0].Text, args[1].Text)+1)
}
