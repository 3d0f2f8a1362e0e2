package stdlib_test

import (
	"slices"
	"strings"
	"testing"

	"relay/api"
	"relay/stdlib"
	"relay/value"
)

// conversions is the names of all conversions, with and without the kind that they take.
func conversions() []string {
	var l []string
	for _, to := range kinds() {
		l = append(l, "TO_"+value.Word(to))
		for _, from := range kinds() {
			l = append(l, value.Word(from)+"_TO_"+value.Word(to))
		}
	}
	return l
}

// noNames is names that no function has.
func noNames() []string {
	l := []string{
		"", " ", "FOO", "ADD ", " ADD", "ADDS", "AD", "NEG", "EXPT", "SQRT", "NAND", "TO", "TO_", "_TO_", "_TO_INT", "INT_TO_", "INT_TO", "INTTO_DINT",
		"TO_INT_TO_DINT", "TO_TO_INT", "INT_TO_DINT_TO_LINT", "INT_TO_TO_DINT", "INT_TO__DINT", "INT__TO_DINT", "INT_TO_FOO", "FOO_TO_INT", "TO_FOO", "TO_REF",
		"REF_TO_INT", "TO_INT ", "INT_TO_dint", "int_TO_DINT", "INT_to_DINT", "TO_REAL", "INT_TRUNC", "S1", "TON", "SR", "\x00", "\xff", strings.Repeat("A", 1<<16),
	}
	for _, name := range append(names[1:], conversions()...) {
		l = append(l, strings.ToLower(name))
	}
	return l
}

// number is the chapter's number of a name.
func number(name string) int {
	if n := slices.Index(names, name); n > 0 {
		return n
	}
	_, to, _ := conversion(name)
	return 65 + slices.IndexFunc(kinds(), func(k api.Kind) bool { return value.Word(k) == to })
}

func checkFind(t *testing.T, name string, l []api.Kind) {
	t.Helper()
	fn, k, e := stdlib.Find(name, l)
	want := outcome(name, l)
	switch {
	case want == api.KNone && (fn != 0 || k != 0 || e != api.ErrTypes):
		t.Fatalf("Find(%s, %v): %d, %d, %d; want ErrTypes", name, l, fn, k, e)
	case want != api.KNone && (fn != number(name) || k != want || e != api.OK):
		t.Fatalf("Find(%s, %v): %d, %d, %d; want %d, %d", name, l, fn, k, e, number(name), want)
	}
}

// lists hands all lists of n of some kinds on.
func lists(n int, of []api.Kind, use func([]api.Kind)) {
	l := make([]api.Kind, n)
	var fill func(i int)
	fill = func(i int) {
		if i == n {
			use(l)
			return
		}
		for _, k := range of {
			l[i] = k
			fill(i + 1)
		}
	}
	fill(0)
}

// P9.1: each function with all kinds, those that it takes and those that it does not.
func TestFind(t *testing.T) {
	every := append(kinds(), noKinds()...)
	for _, name := range names[1:] {
		for n := range 4 {
			lists(n, every, func(l []api.Kind) { checkFind(t, name, l) })
		}
		some := []api.Kind{api.KBool, api.KInt, api.KUlint, api.KByte, api.KTime, api.KTod, api.KLreal, api.KString, api.KRef}
		lists(4, some, func(l []api.Kind) { checkFind(t, name, l) })
		lists(5, some[1:], func(l []api.Kind) { checkFind(t, name, l) })
	}
	for _, name := range conversions() {
		for n := range 3 {
			lists(n, every, func(l []api.Kind) { checkFind(t, name, l) })
		}
	}
}

// P9.1: from 5 arguments to beyond MaxArgs, all of one kind, or one of them of another one.
func TestFindMany(t *testing.T) {
	every := append(kinds(), noKinds()...)
	for _, name := range append(names[1:], "TO_INT", "INT_TO_INT") {
		for _, n := range []int{5, 15, 16, 17, 18, 300} {
			for _, k := range every {
				l := slices.Repeat([]api.Kind{k}, n)
				checkFind(t, name, l)
				for at := range min(n, 20) {
					for _, other := range []api.Kind{api.KBool, api.KInt, api.KLint, api.KTime, api.KString, api.KNone} {
						l[at] = other
						checkFind(t, name, l)
						l[at] = k
					}
				}
			}
		}
	}
	if fn, k, e := stdlib.Find("MUX", append([]api.Kind{api.KUint}, slices.Repeat([]api.Kind{api.KDate}, 15)...)); fn != 22 || k != api.KDate || e != api.OK {
		t.Error(fn, k, e)
	}
	if fn, k, e := stdlib.Find("MUX", append([]api.Kind{api.KUint}, slices.Repeat([]api.Kind{api.KDate}, 16)...)); fn != 0 || k != 0 || e != api.ErrTypes {
		t.Error(fn, k, e)
	}
}

// P9.1: a name that no function has comes ahead of kinds that none takes.
func TestNoFunction(t *testing.T) {
	for _, name := range noNames() {
		for _, l := range [][]api.Kind{nil, {}, {api.KInt}, {api.KInt, api.KInt}, {api.KRef}, {255, 0, 20}} {
			if fn, k, e := stdlib.Find(name, l); fn != 0 || k != 0 || e != api.ErrFunction {
				t.Errorf("Find(%q, %v): %d, %d, %d", name, l, fn, k, e)
			}
		}
		for n := range 18 {
			if l := stdlib.Params(name, n); len(l) != 0 {
				t.Errorf("Params(%q, %d): %v", name, n, l)
			}
		}
	}
}

// P9.1: the kind ahead of _TO_ is the only one that is taken; of kinds that are not converted none is, but the name is one.
func TestFindConversions(t *testing.T) {
	for _, x := range []struct {
		name string
		kind api.Kind
		fn   int
		k    api.Kind
		e    api.Errno
	}{
		{"TO_BOOL", api.KBool, 65, api.KBool, api.OK},
		{"TO_STRING", api.KInt, 83, api.KString, api.OK},
		{"STRING_TO_STRING", api.KString, 83, api.KString, api.OK},
		{"INT_TO_INT", api.KInt, 67, api.KInt, api.OK},
		{"INT_TO_INT", api.KSint, 0, 0, api.ErrTypes},
		{"TO_STRING", api.KByte, 0, 0, api.ErrTypes},
		{"TO_STRING", api.KLreal, 0, 0, api.ErrTypes},
		{"DT_TO_TOD", api.KDt, 80, api.KTod, api.OK},
		{"TOD_TO_LINT", api.KTod, 69, api.KLint, api.OK},
		{"TOD_TO_DT", api.KTod, 0, 0, api.ErrTypes},
		{"TIME_TO_BOOL", api.KTime, 0, 0, api.ErrTypes},
		{"LREAL_TO_STRING", api.KLreal, 0, 0, api.ErrTypes},
		{"STRING_TO_LREAL", api.KString, 0, 0, api.ErrTypes},
		{"STRING_TO_BOOL", api.KString, 65, api.KBool, api.OK},
	} {
		if fn, k, e := stdlib.Find(x.name, []api.Kind{x.kind}); fn != x.fn || k != x.k || e != x.e {
			t.Errorf("%s of %s: %d, %d, %d", x.name, value.Word(x.kind), fn, k, e)
		}
	}
}

// P9.3: names of all numbers, and of those that are none.
func TestName(t *testing.T) {
	for fn := -100; fn < 300; fn++ {
		want := ""
		switch {
		case fn > 0 && fn < len(names):
			want = names[fn]
		case fn > 64 && fn < 84:
			want = "TO_" + value.Word(kinds()[fn-65])
		}
		if s := stdlib.Name(fn); s != want {
			t.Errorf("Name(%d): %q, want %q", fn, s, want)
		}
	}
	for _, fn := range []int{-1 << 63, 1<<63 - 1, 1<<32 + 1, 1<<16 + 65, 256 + 65, 64 - 256 + 1} {
		if s := stdlib.Name(fn); s != "" {
			t.Errorf("Name(%d): %q", fn, s)
		}
	}
	if stdlib.Name(68) != "TO_DINT" || stdlib.Name(36) != "TRUNC" || stdlib.Name(34) != "REPLACE" {
		t.Error(stdlib.Name(68), stdlib.Name(36), stdlib.Name(34))
	}
}

// P9.3: 84, and all numbers are below that.
func TestCount(t *testing.T) {
	if n := stdlib.Count(); n != 84 || stdlib.Name(n-1) == "" || stdlib.Name(n) != "" {
		t.Error(n)
	}
}

// P9.3: formal names of each number of arguments.
func TestParams(t *testing.T) {
	for _, name := range append(names[1:], conversions()...) {
		for n := -3; n < 40; n++ {
			if l, want := stdlib.Params(name, n), params(name, n); !slices.Equal(l, want) {
				t.Errorf("Params(%s, %d): %q, want %q", name, n, l, want)
			}
		}
		for _, n := range []int{-1 << 63, 1<<63 - 1, 1 << 32, 1<<32 + 1, 1<<32 + 2} {
			if l := stdlib.Params(name, n); len(l) != 0 {
				t.Errorf("Params(%s, %d): %q", name, n, l)
			}
		}
	}
	for _, x := range []struct {
		name string
		n    int
		want string
	}{
		{"ADD", 2, "IN1 IN2"}, {"ADD", 3, "IN1 IN2 IN3"}, {"MUX", 2, "K IN0"}, {"MUX", 4, "K IN0 IN1 IN2"}, {"LIMIT", 3, "MN IN MX"}, {"SEL", 3, "G IN0 IN1"},
		{"REPLACE", 4, "IN1 IN2 L P"}, {"MOVE", 1, "IN"}, {"TO_INT", 1, "IN"}, {"INT_TO_DINT", 1, "IN"}, {"TIME_TO_BOOL", 1, "IN"},
		{"OR", 16, "IN1 IN2 IN3 IN4 IN5 IN6 IN7 IN8 IN9 IN10 IN11 IN12 IN13 IN14 IN15 IN16"},
		{"MUX", 16, "K IN0 IN1 IN2 IN3 IN4 IN5 IN6 IN7 IN8 IN9 IN10 IN11 IN12 IN13 IN14"},
	} {
		if l := stdlib.Params(x.name, x.n); strings.Join(l, " ") != x.want {
			t.Errorf("Params(%s, %d): %q", x.name, x.n, l)
		}
	}
}

// What is handed in stays, its spare room too.
func TestFindMemory(t *testing.T) {
	for _, name := range append(names, conversions()...) {
		room := slices.Repeat([]api.Kind{api.KString}, 20)
		for n := range 18 {
			l := room[:n]
			if n > 2 {
				l[2], l[1] = api.KInt, api.KInt
			}
			ahead := slices.Clone(room)
			stdlib.Find(name, l)
			if !slices.Equal(room, ahead) {
				t.Fatal(name, n, room)
			}
		}
	}
}

// What is answered is memory of its own: whatever is done with it, the next answer is the same.
func TestParamsMemory(t *testing.T) {
	for _, name := range append(names[1:], "TO_INT", "INT_TO_DINT") {
		for n := range 17 {
			one, two := stdlib.Params(name, n), stdlib.Params(name, n)
			for i := range one[:cap(one)] {
				one[:cap(one)][i] = "spoilt"
			}
			if !slices.Equal(two, params(name, n)) || !slices.Equal(stdlib.Params(name, n), params(name, n)) {
				t.Fatal(name, n, two)
			}
			if slices.Contains(two[:cap(two)], "spoilt") {
				t.Fatal(name, n, "shared room")
			}
		}
	}
}
