package value_test

import (
	"math"
	"math/big"
	"strings"
	"testing"

	"relay/api"
	"relay/value"
)

// What the tests hold the package against: kinds by their bounds, numbers as big ones, so that nothing is reckoned as the package does it.

const (
	dayNanos = 86400000000000
	nanBits  = 0x7ff8000000000001
	minusBit = 1 << 63
)

var leastGreatest = map[api.Kind][2]string{
	api.KBool:  {"0", "1"},
	api.KSint:  {"-128", "127"},
	api.KInt:   {"-32768", "32767"},
	api.KDint:  {"-2147483648", "2147483647"},
	api.KLint:  {"-9223372036854775808", "9223372036854775807"},
	api.KUsint: {"0", "255"},
	api.KUint:  {"0", "65535"},
	api.KUdint: {"0", "4294967295"},
	api.KUlint: {"0", "18446744073709551615"},
	api.KByte:  {"0", "255"},
	api.KWord:  {"0", "65535"},
	api.KDword: {"0", "4294967295"},
	api.KLword: {"0", "18446744073709551615"},
	api.KTime:  {"-9223372036854775808", "9223372036854775807"},
	api.KDate:  {"0", "7258032000000000000"},
	api.KTod:   {"0", "86399999999999"},
	api.KDt:    {"0", "7258118399999999999"},
}

// bounds is the least and the greatest number of each kind that has numbers.
func bounds(k api.Kind) (lo, hi *big.Int, ok bool) {
	t, ok := leastGreatest[k]
	if !ok {
		return nil, nil, false
	}
	lo, _ = new(big.Int).SetString(t[0], 10)
	hi, _ = new(big.Int).SetString(t[1], 10)
	return lo, hi, true
}

func integers() []api.Kind {
	return []api.Kind{api.KSint, api.KInt, api.KDint, api.KLint, api.KUsint, api.KUint, api.KUdint, api.KUlint}
}

func rows() []api.Kind { return []api.Kind{api.KByte, api.KWord, api.KDword, api.KLword} }

func spans() []api.Kind { return []api.Kind{api.KTime, api.KDate, api.KTod, api.KDt} }

func kinds() []api.Kind {
	l := append([]api.Kind{api.KBool}, integers()...)
	l = append(append(l, rows()...), spans()...)
	return append(l, api.KLreal, api.KString)
}

// noKinds is kinds that are none of values.
func noKinds() []api.Kind { return []api.Kind{api.KNone, api.KRef, api.NumKind, 100, 255} }

func in(k api.Kind, l ...api.Kind) bool {
	for _, x := range l {
		if x == k {
			return true
		}
	}
	return false
}

func isSigned(k api.Kind) bool {
	return in(k, api.KSint, api.KInt, api.KDint, api.KLint, api.KTime)
}

// bigOf is the number of a value that may be and has one.
func bigOf(v api.Value) *big.Int {
	if isSigned(v.Kind) {
		return big.NewInt(int64(v.Bits))
	}
	return new(big.Int).SetUint64(v.Bits)
}

// make1 is the value of a kind with a number, if there is one.
func make1(k api.Kind, n *big.Int) (api.Value, bool) {
	lo, hi, ok := bounds(k)
	if !ok || n.Cmp(lo) < 0 || n.Cmp(hi) > 0 {
		return api.Value{}, false
	}
	if k == api.KDate && new(big.Int).Mod(n, big.NewInt(dayNanos)).Sign() != 0 {
		return api.Value{}, false
	}
	if n.Sign() < 0 {
		return api.Value{Kind: k, Bits: uint64(n.Int64())}, true
	}
	return api.Value{Kind: k, Bits: n.Uint64()}, true
}

func lreal(f float64) api.Value { return api.Value{Kind: api.KLreal, Bits: math.Float64bits(f)} }

func text(s string) api.Value { return api.Value{Kind: api.KString, Text: s} }

func truth(is bool) api.Value {
	if is {
		return api.Value{Kind: api.KBool, Bits: 1}
	}
	return api.Value{Kind: api.KBool}
}

func num(t testing.TB, k api.Kind, n int64) api.Value {
	t.Helper()
	v, ok := make1(k, big.NewInt(n))
	if !ok {
		t.Fatal("no such value:", k, n)
	}
	return v
}

// edges is values of a kind at and around its edges.
func edges(k api.Kind) []api.Value {
	if k == api.KLreal {
		return floats()
	}
	if k == api.KString {
		var l []api.Value
		for _, s := range []string{"", "A", "AB", "ABC", "B", "a", "\x00", "\xff", "\u00e4", "0", "-1", "5", "127", "128", "-128", "-129", "TRUE", "FALSE", "18446744073709551615", "18446744073709551616", strings.Repeat("9", api.MaxText), strings.Repeat("x", api.MaxText)} {
			l = append(l, text(s))
		}
		return l
	}
	lo, hi, _ := bounds(k)
	half := new(big.Int).Rsh(hi, 1)
	seen := map[uint64]int{}
	var l []api.Value
	for _, from := range []*big.Int{lo, hi, new(big.Int), half, big.NewInt(10), big.NewInt(dayNanos), big.NewInt(5 * dayNanos / 2)} {
		for _, more := range []int64{-dayNanos, -3, -2, -1, 0, 1, 2, 3, dayNanos} {
			v, ok := make1(k, new(big.Int).Add(from, big.NewInt(more)))
			if ok && seen[v.Bits] == 0 {
				seen[v.Bits] = 1
				l = append(l, v)
			}
		}
	}
	return l
}

func floats() []api.Value {
	l := []api.Value{{Kind: api.KLreal, Bits: nanBits}}
	for _, f := range []float64{0, 0.25, 0.5, 0.75, 1, 1.5, 2, 2.5, 3, 3.5, 0.1, 0.2, 127, 127.5, 128.5, 255.5, 256, 32766.5, 32767.4, 32767.5, 65535.5, 1 << 31, 1<<32 - 0.5, 1 << 52, 1<<53 - 1, 1 << 53, 1<<62 + 1<<10, 1 << 63, 1<<63 - 1<<10, 1<<64 - 1<<11, 1 << 64, 1e300, 1e-300, math.MaxFloat64, math.SmallestNonzeroFloat64, 2.2250738585072014e-308, 2.225073858507201e-308, math.Inf(1), 1 + 1.0/(1<<52), 1.0 / (1 << 53), 3.0 / (1 << 53)} {
		l = append(l, lreal(f), api.Value{Kind: api.KLreal, Bits: math.Float64bits(f) ^ minusBit})
	}
	return l
}

// all is the edges of all kinds.
func all() []api.Value {
	var l []api.Value
	for _, k := range kinds() {
		l = append(l, edges(k)...)
	}
	return l
}

// wrong is values that may not be.
func wrong() []api.Value {
	l := []api.Value{
		{Kind: api.KBool, Bits: 2}, {Kind: api.KBool, Bits: 1 << 63}, {Kind: api.KBool, Bits: 1, Text: "x"},
		{Kind: api.KSint, Bits: 128}, {Kind: api.KSint, Bits: 255}, {Kind: api.KSint, Bits: ^uint64(128)}, {Kind: api.KSint, Text: "1"},
		{Kind: api.KInt, Bits: 1 << 15}, {Kind: api.KInt, Bits: 65535}, {Kind: api.KInt, Bits: ^uint64(1 << 15)},
		{Kind: api.KDint, Bits: 1 << 31}, {Kind: api.KDint, Bits: 1<<32 - 1}, {Kind: api.KDint, Bits: ^uint64(1 << 31)},
		{Kind: api.KLint, Text: "0"},
		{Kind: api.KUsint, Bits: 256}, {Kind: api.KUint, Bits: 1 << 16}, {Kind: api.KUdint, Bits: 1 << 32}, {Kind: api.KUlint, Text: " "},
		{Kind: api.KByte, Bits: 256}, {Kind: api.KWord, Bits: 1 << 16}, {Kind: api.KDword, Bits: 1 << 32}, {Kind: api.KLword, Bits: 5, Text: "\x00"},
		{Kind: api.KUsint, Bits: ^uint64(0)}, {Kind: api.KByte, Bits: ^uint64(0)},
		{Kind: api.KTime, Text: "x"},
		{Kind: api.KDate, Bits: 1}, {Kind: api.KDate, Bits: dayNanos - 1}, {Kind: api.KDate, Bits: 84006 * dayNanos}, {Kind: api.KDate, Bits: ^uint64(dayNanos) + 1}, {Kind: api.KDate, Text: "x"},
		{Kind: api.KTod, Bits: dayNanos}, {Kind: api.KTod, Bits: ^uint64(0)}, {Kind: api.KTod, Text: "x"},
		{Kind: api.KDt, Bits: 84006 * dayNanos}, {Kind: api.KDt, Bits: ^uint64(0)}, {Kind: api.KDt, Text: "x"},
		{Kind: api.KLreal, Bits: 0x7ff8000000000000}, {Kind: api.KLreal, Bits: 0xfff8000000000001}, {Kind: api.KLreal, Bits: 0x7ff0000000000001}, {Kind: api.KLreal, Bits: ^uint64(0)}, {Kind: api.KLreal, Text: "x"}, {Kind: api.KLreal, Bits: nanBits, Text: "x"},
		{Kind: api.KString, Bits: 1}, {Kind: api.KString, Bits: 1, Text: "x"}, {Kind: api.KString, Text: strings.Repeat("x", api.MaxText+1)},
	}
	for _, k := range noKinds() {
		l = append(l, api.Value{Kind: k}, api.Value{Kind: k, Bits: 1}, api.Value{Kind: k, Text: "x"})
	}
	return l
}

// same holds a value and a fault against those that are wanted.
func same(t *testing.T, what string, got api.Value, fault int, want api.Value, wantFault int) {
	t.Helper()
	if got != want || fault != wantFault {
		t.Errorf("%s: %v, fault %d; want %v, fault %d", what, got, fault, want, wantFault)
	}
}

func show(v api.Value) string { return value.Word(v.Kind) + " " + value.Print(v) }
