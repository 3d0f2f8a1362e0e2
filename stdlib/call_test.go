package stdlib_test

import (
	"math"
	"math/rand"
	"slices"
	"strings"
	"testing"

	"relay/api"
	"relay/stdlib"
	"relay/value"
)

const dayNanos = 86400000000000

// known is what edges has made so far.
var known = map[api.Kind][]api.Value{}

// edges is values of a kind at and around its edges.
func edges(k api.Kind) []api.Value {
	if known[k] == nil {
		known[k] = makeEdges(k)
	}
	return known[k]
}

func makeEdges(k api.Kind) []api.Value {
	switch k {
	case api.KLreal:
		l := []api.Value{{Kind: k, Bits: nanBits}}
		for _, f := range []float64{0, 0.5, 0.9999999999999999, 1, 1.5, 2.5, 2.9, 127.5, 32767.9, 1 << 53, 1<<63 - 1<<10, 1 << 63, 1<<63 + 1<<11, 1 << 64, 1e300, math.SmallestNonzeroFloat64, math.MaxFloat64, math.Inf(1)} {
			l = append(l, lreal(f), lreal(math.Copysign(f, -1)))
		}
		return l
	case api.KString:
		var l []api.Value
		for _, s := range []string{"", "A", "AB", "B", "ba", "abab", "bab", "\x00", "\xff", "TRUE", "-1", "127", strings.Repeat("x", 253), strings.Repeat("ab", 127)} {
			l = append(l, text(s))
		}
		return l
	}
	var l []api.Value
	for shift := range 64 {
		for _, more := range []uint64{0, 1, ^uint64(0)} {
			for _, v := range []api.Value{{Kind: k, Bits: 1<<shift + more}, {Kind: k, Bits: -(1<<shift + more)}} {
				if value.May(v) && !slices.Contains(l, v) {
					l = append(l, v)
				}
			}
		}
	}
	for _, n := range []uint64{0, 5, 100, 129, dayNanos, dayNanos - 1, 84005 * dayNanos, 84006*dayNanos - 1, 1<<63 + 5, ^uint64(0) - 5} {
		if v := (api.Value{Kind: k, Bits: n}); value.May(v) && !slices.Contains(l, v) {
			l = append(l, v)
		}
	}
	return l
}

// few is some of a kind's edges: the first, the last ones, and some between.
func few(k api.Kind) []api.Value {
	l := edges(k)
	step := max(len(l)/6, 1)
	var out []api.Value
	for i := 0; i < len(l); i += step {
		out = append(out, l[i])
	}
	return append(out, l[len(l)-1])
}

// wrong is values that may not be.
func wrong() []api.Value {
	l := []api.Value{
		{Kind: api.KBool, Bits: 2}, {Kind: api.KBool, Bits: 1, Text: "x"}, {Kind: api.KSint, Bits: 128}, {Kind: api.KInt, Bits: 1 << 15}, {Kind: api.KInt, Bits: 65535},
		{Kind: api.KInt, Bits: 1, Text: "1"}, {Kind: api.KDint, Bits: 1 << 31}, {Kind: api.KLint, Text: "0"}, {Kind: api.KUsint, Bits: 256}, {Kind: api.KUlint, Text: "x"},
		{Kind: api.KByte, Bits: 256}, {Kind: api.KWord, Bits: 1 << 16}, {Kind: api.KDword, Bits: 1 << 32}, {Kind: api.KLword, Text: "x"}, {Kind: api.KTime, Text: "x"},
		{Kind: api.KDate, Bits: 1}, {Kind: api.KTod, Bits: dayNanos}, {Kind: api.KDt, Bits: 84006 * dayNanos}, {Kind: api.KLreal, Bits: 0x7ff8000000000000},
		{Kind: api.KLreal, Bits: ^uint64(0)}, {Kind: api.KLreal, Text: "x"}, {Kind: api.KString, Bits: 1}, {Kind: api.KString, Text: strings.Repeat("x", api.MaxText+1)},
	}
	for _, k := range noKinds() {
		l = append(l, api.Value{Kind: k}, api.Value{Kind: k, Bits: 1}, api.Value{Kind: k, Text: "x"})
	}
	return l
}

// checkCall holds a call against the chapter's table; by it P9.4, too: a kind that is told is given, or a fault that is not FaultKind.
func checkCall(t *testing.T, name string, args []api.Value) {
	t.Helper()
	l := kindsOf(args)
	k := outcome(name, l)
	want, fault := api.Value{}, api.FaultKind
	if k != api.KNone {
		want, fault = result(name, args)
	}
	v, f := stdlib.Call(number(name), args)
	if v != want || f != fault {
		t.Fatalf("%s: %v, %d; want %v, %d", show(name, args), v, f, want, fault)
	}
	if k != api.KNone && (f == api.FaultKind || f == 0 && (v.Kind != k || !value.May(v))) {
		t.Fatalf("%s: %v, %d; told is %s", show(name, args), v, f, value.Word(k))
	}
}

// called is the names of all functions, one a number.
func called() []string {
	l := slices.Clone(names[1:])
	for _, k := range kinds() {
		l = append(l, "TO_"+value.Word(k))
	}
	return l
}

// P9.2, P9.4: one argument, and two, of all kinds; and none.
func TestCallOneAndTwo(t *testing.T) {
	for _, name := range called() {
		checkCall(t, name, nil)
		checkCall(t, name, []api.Value{})
		for _, k := range kinds() {
			for _, v := range edges(k) {
				checkCall(t, name, []api.Value{v})
			}
		}
		for _, a := range kinds() {
			for _, b := range kinds() {
				as, bs := few(a)[:1], few(b)[:1]
				if outcome(name, []api.Kind{a, b}) != api.KNone {
					as, bs = few(a), edges(b)
				}
				for _, v := range as {
					for _, w := range bs {
						checkCall(t, name, []api.Value{v, w})
					}
				}
			}
		}
	}
}

// some is a list of values for a function: mostly of kinds that it takes.
func some(r *rand.Rand, name string) []api.Value {
	n := 1 + r.Intn(4)
	if r.Intn(4) == 0 {
		n = r.Intn(api.MaxArgs + 3)
	}
	if l := strings.Fields(formals[name]); len(l) > 0 && r.Intn(20) > 0 {
		n = len(l)
	}
	one := kinds()[r.Intn(len(kinds()))]
	if strings.Contains(" LEN LEFT RIGHT MID CONCAT INSERT DELETE REPLACE FIND ", " "+name+" ") {
		one = api.KString
	}
	var args []api.Value
	for i := range n {
		k := one
		if l := params(name, n); len(l) > i {
			switch {
			case l[i] == "G":
				k = api.KBool
			case in(k, api.KNone) || l[i] == "K" || l[i] == "N" || l[i] == "L" || l[i] == "P":
				k = integers()[r.Intn(8)]
			}
		}
		if r.Intn(60) == 0 {
			k = kinds()[r.Intn(len(kinds()))]
		}
		l := edges(k)
		v := l[r.Intn(len(l))]
		if isInteger(k) && r.Intn(2) == 0 {
			v = num(k, int64(r.Intn(12)))
		}
		args = append(args, v)
	}
	return args
}

// P9.2, P9.4: lists of all lengths, of all kinds; those that do without a fault are not rare.
func TestCallMany(t *testing.T) {
	r := rand.New(rand.NewSource(9))
	for _, name := range called() {
		fine := 0
		for range 4000 {
			args := some(r, name)
			checkCall(t, name, args)
			if _, f := stdlib.Call(number(name), args); f == 0 {
				fine++
			}
		}
		if fine < 20 {
			t.Errorf("%s: only %d without a fault", name, fine)
		}
	}
}

// P9.2: numbers that no function has.
func TestCallNoFunction(t *testing.T) {
	var fns []int
	for fn := -300; fn < 400; fn++ {
		if fn < 1 || fn > 36 && fn < 65 || fn > 83 {
			fns = append(fns, fn)
		}
	}
	fns = append(fns, -1<<63, 1<<63-1, 1<<32+1, 1<<16+16, 1<<8+16, 64+256+3, 64-256+3)
	for _, fn := range fns {
		for _, args := range [][]api.Value{nil, {num(api.KInt, 1)}, {num(api.KInt, 1), num(api.KInt, 1)}, {text("a"), text("b"), num(api.KInt, 1)}} {
			if v, f := stdlib.Call(fn, args); v != (api.Value{}) || f != api.FaultKind {
				t.Errorf("Call(%d, %v): %v, %d", fn, args, v, f)
			}
		}
	}
}

// P9.2: a value that may not be comes ahead of all other faults, wherever it stands.
func TestCallWrong(t *testing.T) {
	for _, name := range called() {
		for _, bad := range wrong() {
			for n := 1; n < 5; n++ {
				for at := range n {
					args := slices.Repeat([]api.Value{bad}, n)
					for i := range args {
						if i != at {
							args[i] = few(api.KInt)[0]
						}
					}
					if v, f := stdlib.Call(number(name), args); v != (api.Value{}) || f != api.FaultKind {
						t.Errorf("%s with %v: %v, %d", name, args, v, f)
					}
				}
			}
		}
	}
	over := []api.Value{num(api.KInt, 32767), num(api.KInt, 1), {Kind: api.KInt, Bits: 1 << 20}}
	if v, f := stdlib.Call(1, over); v != (api.Value{}) || f != api.FaultKind {
		t.Error(v, f)
	}
	unused := []api.Value{num(api.KInt, 0), text("a"), text(strings.Repeat("x", 255))}
	if v, f := stdlib.Call(22, unused); v != (api.Value{}) || f != api.FaultKind {
		t.Error(v, f)
	}
}

// given is a case by hand.
type given struct {
	name  string
	args  []api.Value
	want  api.Value
	fault int
}

func checkGiven(t *testing.T, l []given) {
	t.Helper()
	for _, x := range l {
		if v, f := stdlib.Call(number(x.name), x.args); v != x.want || f != x.fault {
			t.Errorf("%s: %v, %d; want %v, %d", show(x.name, x.args), v, f, x.want, x.fault)
		}
	}
}

func vs(l ...api.Value) []api.Value { return l }

func i(n int64) api.Value { return num(api.KInt, n) }

// The chapter's examples.
func TestExamples(t *testing.T) {
	for _, x := range []struct {
		name  string
		kinds []api.Kind
		fn    int
		k     api.Kind
		e     api.Errno
	}{
		{"ADD", []api.Kind{api.KInt, api.KInt, api.KInt}, 1, api.KInt, api.OK},
		{"ADD", []api.Kind{api.KInt, api.KDint}, 0, 0, api.ErrTypes},
		{"ADD", []api.Kind{api.KTod, api.KTime}, 1, api.KTod, api.OK},
		{"INT_TO_DINT", []api.Kind{api.KInt}, 68, api.KDint, api.OK},
		{"INT_TO_DINT", []api.Kind{api.KSint}, 0, 0, api.ErrTypes},
	} {
		if fn, k, e := stdlib.Find(x.name, x.kinds); fn != x.fn || k != x.k || e != x.e {
			t.Error(x.name, x.kinds, fn, k, e)
		}
	}
	nan := api.Value{Kind: api.KLreal, Bits: nanBits}
	checkGiven(t, []given{
		{"LIMIT", vs(i(0), i(7), i(5)), i(5), 0},
		{"MUX", vs(i(2), text("a"), text("b")), api.Value{}, api.FaultRange},
		{"SHL", vs(num(api.KByte, 129), i(1)), num(api.KByte, 2), 0},
		{"ROL", vs(num(api.KByte, 129), i(1)), num(api.KByte, 3), 0},
		{"MID", vs(text("abcd"), i(2), i(2)), text("bc"), 0},
		{"REPLACE", vs(text("abcd"), text("X"), i(2), i(2)), text("aXd"), 0},
		{"ABS", vs(num(api.KSint, -128)), api.Value{}, api.FaultOver},
		{"MIN", vs(nan, lreal(1)), nan, 0},
		{"MIN", vs(lreal(1), nan), lreal(1), 0},
	})
}

// P9.2: of several arguments the first fault from the left.
func TestFirstFault(t *testing.T) {
	big := text(strings.Repeat("x", 254))
	checkGiven(t, []given{
		{"ADD", vs(i(32767), i(1), i(-1)), api.Value{}, api.FaultOver},
		{"ADD", vs(i(32767), i(-1), i(1)), i(32767), 0},
		{"ADD", vs(i(1), i(2), i(3), i(-6)), i(0), 0},
		{"MUL", vs(i(256), i(128), i(0)), api.Value{}, api.FaultOver},
		{"MUL", vs(i(0), i(256), i(128)), i(0), 0},
		{"ADD", vs(lreal(1e308), lreal(1e308), lreal(-1e308)), lreal(math.Inf(1)), 0},
		{"ADD", vs(num(api.KUsint, 200), num(api.KUsint, 55)), num(api.KUsint, 255), 0},
		{"DIV", vs(i(1), i(0)), api.Value{}, api.FaultZero},
		{"MOD", vs(i(1), i(0)), api.Value{}, api.FaultZero},
		{"DIV", vs(i(-32768), i(-1)), api.Value{}, api.FaultOver},
		{"INSERT", vs(big, text("x"), i(255)), api.Value{}, api.FaultRange},
		{"INSERT", vs(big, text("x"), i(254)), api.Value{}, api.FaultText},
		{"REPLACE", vs(big, text("x"), i(-1), i(1)), api.Value{}, api.FaultRange},
		{"REPLACE", vs(big, text("xy"), i(1), i(0)), api.Value{}, api.FaultRange},
		{"REPLACE", vs(big, text("xy"), i(1), i(256)), api.Value{}, api.FaultRange},
		{"REPLACE", vs(big, text("xy"), i(1), i(1)), api.Value{}, api.FaultText},
	})
}

// The edges that the chapter names of numbers.
func TestNumbers(t *testing.T) {
	nan, inf, less := api.Value{Kind: api.KLreal, Bits: nanBits}, lreal(math.Inf(1)), lreal(math.Inf(-1))
	zero, minus := lreal(0), lreal(math.Copysign(0, -1))
	checkGiven(t, []given{
		{"ABS", vs(nan), nan, 0}, {"ABS", vs(less), inf, 0}, {"ABS", vs(inf), inf, 0}, {"ABS", vs(minus), zero, 0}, {"ABS", vs(zero), zero, 0}, {"ABS", vs(lreal(-2.5)), lreal(2.5), 0},
		{"ABS", vs(num(api.KLint, math.MinInt64)), api.Value{}, api.FaultOver}, {"ABS", vs(num(api.KTime, math.MinInt64)), api.Value{}, api.FaultOver},
		{"ABS", vs(num(api.KTime, -5)), num(api.KTime, 5), 0}, {"ABS", vs(num(api.KDint, math.MinInt32)), api.Value{}, api.FaultOver}, {"ABS", vs(i(-32768)), api.Value{}, api.FaultOver},
		{"ABS", vs(num(api.KUlint, -1)), num(api.KUlint, -1), 0}, {"ABS", vs(i(-32767)), i(32767), 0},
		{"MIN", vs(zero, minus), zero, 0}, {"MIN", vs(minus, zero), minus, 0}, {"MAX", vs(minus, zero), minus, 0}, {"MAX", vs(zero, minus), zero, 0},
		{"MIN", vs(lreal(3), nan, lreal(2)), lreal(2), 0}, {"MAX", vs(nan, lreal(3), lreal(2)), nan, 0}, {"MAX", vs(lreal(3), nan, inf), inf, 0}, {"MIN", vs(inf, less, nan), less, 0},
		{"MIN", vs(text("b"), text("ab"), text("a")), text("a"), 0}, {"MAX", vs(truth(false), truth(true)), truth(true), 0},
		{"LIMIT", vs(nan, lreal(1), nan), lreal(1), 0}, {"LIMIT", vs(lreal(0), nan, lreal(1)), nan, 0}, {"LIMIT", vs(zero, minus, zero), minus, 0}, {"LIMIT", vs(lreal(5), inf, less), less, 0},
		{"LIMIT", vs(i(5), i(3), i(2)), i(2), 0}, {"LIMIT", vs(i(5), i(3), i(7)), i(5), 0}, {"LIMIT", vs(i(5), i(6), i(7)), i(6), 0}, {"LIMIT", vs(i(5), i(5), i(5)), i(5), 0},
		{"EQ", vs(zero, minus), truth(true), 0}, {"EQ", vs(nan, nan), truth(false), 0}, {"NE", vs(nan, nan), truth(true), 0}, {"GE", vs(inf, less, less), truth(true), 0},
		{"LE", vs(minus, zero, minus), truth(true), 0}, {"LT", vs(minus, zero), truth(false), 0}, {"LE", vs(lreal(1), nan), truth(false), 0}, {"GT", vs(inf, nan), truth(false), 0},
		{"LT", vs(i(1), i(2), i(3)), truth(true), 0}, {"LT", vs(i(1), i(3), i(2)), truth(false), 0}, {"LT", vs(i(2), i(1), i(3)), truth(false), 0}, {"EQ", vs(i(1), i(1), i(2)), truth(false), 0},
		{"SEL", vs(truth(false), i(1), i(2)), i(1), 0}, {"SEL", vs(truth(true), i(1), i(2)), i(2), 0},
		{"MUX", vs(i(0), i(7)), i(7), 0}, {"MUX", vs(i(1), i(7)), api.Value{}, api.FaultRange}, {"MUX", vs(i(-1), i(7)), api.Value{}, api.FaultRange},
		{"MUX", vs(num(api.KUlint, math.MinInt64), i(7)), api.Value{}, api.FaultRange}, {"MUX", vs(num(api.KUlint, -1), i(7)), api.Value{}, api.FaultRange},
		{"TRUNC", vs(nan), api.Value{}, api.FaultConvert}, {"TRUNC", vs(inf), api.Value{}, api.FaultConvert}, {"TRUNC", vs(less), api.Value{}, api.FaultConvert},
		{"TRUNC", vs(lreal(1 << 63)), api.Value{}, api.FaultConvert}, {"TRUNC", vs(lreal(-1 << 63)), num(api.KLint, math.MinInt64), 0}, {"TRUNC", vs(lreal(-1<<63 - 1<<11)), api.Value{}, api.FaultConvert},
		{"TRUNC", vs(lreal(-0.5)), num(api.KLint, 0), 0}, {"TRUNC", vs(lreal(2.9)), num(api.KLint, 2), 0}, {"TRUNC", vs(lreal(-2.9)), num(api.KLint, -2), 0}, {"TRUNC", vs(minus), num(api.KLint, 0), 0},
		{"TO_INT", vs(lreal(2.5)), i(2), 0}, {"TO_INT", vs(nan), api.Value{}, api.FaultConvert}, {"TO_SINT", vs(text("128")), api.Value{}, api.FaultConvert}, {"TO_STRING", vs(i(-5)), text("-5"), 0},
	})
}

// Shifts and turns by 0, by the width, by more, by less than 0, by more than an int has.
func TestRows(t *testing.T) {
	for _, row := range []struct {
		k                                                 api.Kind
		width, bits, left, right, turnedLeft, turnedRight int64
	}{
		{api.KByte, 8, 0x81, 0x02, 0x40, 0x03, 0xc0},
		{api.KWord, 16, 0x8001, 0x0002, 0x4000, 0x0003, 0xc000},
		{api.KDword, 32, 0x80000001, 0x00000002, 0x40000000, 0x00000003, 0xc0000000},
		{api.KLword, 64, -1<<63 + 1, 2, 1 << 62, 3, -1 << 62},
	} {
		v, u := num(row.k, row.bits), func(n int64) api.Value { return num(api.KUlint, n) }
		checkGiven(t, []given{
			{"SHL", vs(v, u(0)), v, 0}, {"SHR", vs(v, u(0)), v, 0}, {"ROL", vs(v, u(0)), v, 0}, {"ROR", vs(v, u(0)), v, 0},
			{"SHL", vs(v, u(1)), num(row.k, row.left), 0}, {"SHR", vs(v, u(1)), num(row.k, row.right), 0},
			{"ROL", vs(v, u(1)), num(row.k, row.turnedLeft), 0}, {"ROR", vs(v, u(1)), num(row.k, row.turnedRight), 0},
			{"SHL", vs(v, u(row.width)), num(row.k, 0), 0}, {"SHR", vs(v, u(row.width)), num(row.k, 0), 0}, {"ROL", vs(v, u(row.width)), v, 0}, {"ROR", vs(v, u(row.width)), v, 0},
			{"SHL", vs(v, u(row.width-1)), num(row.k, -1<<(row.width-1)&(1<<row.width-1)), 0}, {"SHR", vs(v, u(row.width-1)), num(row.k, 1), 0},
			{"SHL", vs(v, u(row.width+1)), num(row.k, 0), 0}, {"SHR", vs(v, u(row.width+1)), num(row.k, 0), 0},
			{"ROL", vs(v, u(row.width+1)), num(row.k, row.turnedLeft), 0}, {"ROR", vs(v, u(row.width+1)), num(row.k, row.turnedRight), 0},
			{"SHL", vs(v, u(-1)), num(row.k, 0), 0}, {"SHR", vs(v, u(-1<<63)), num(row.k, 0), 0},
			{"ROL", vs(v, u(-1)), num(row.k, row.turnedRight), 0}, {"ROR", vs(v, u(-1)), num(row.k, row.turnedLeft), 0},
			{"ROL", vs(v, u(-1<<63)), v, 0}, {"ROR", vs(v, u(-1<<63+1)), num(row.k, row.turnedRight), 0},
		})
		for _, name := range []string{"SHL", "SHR", "ROL", "ROR"} {
			for _, k := range []api.Kind{api.KSint, api.KInt, api.KDint, api.KLint} {
				checkGiven(t, []given{{name, vs(v, num(k, -1)), api.Value{}, api.FaultRange}})
			}
			checkGiven(t, []given{{name, vs(v, num(api.KLint, math.MinInt64)), api.Value{}, api.FaultRange}})
		}
	}
}
