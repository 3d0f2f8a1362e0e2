package value_test

import (
	"math"
	"math/big"
	"regexp"
	"strings"
	"testing"

	"relay/api"
	"relay/value"
)

var numberForm = regexp.MustCompile(`\A(0|-?[1-9][0-9]*)\z`)

// number is a value of a kind, or FaultConvert, if it has none of that number.
func number(k api.Kind, n *big.Int) (api.Value, int) {
	v, ok := make1(k, n)
	if !ok {
		return api.Value{}, api.FaultConvert
	}
	return v, 0
}

// roundedBig is the number nearest to a float, of two as near the even one.
func roundedBig(f float64) *big.Int {
	r := new(big.Rat).SetFloat64(f)
	two := big.NewInt(2)
	up := new(big.Int).Add(new(big.Int).Mul(r.Num(), two), r.Denom())
	n, left := new(big.Int).DivMod(up, new(big.Int).Mul(r.Denom(), two), new(big.Int))
	if left.Sign() == 0 && n.Bit(0) == 1 {
		n.Sub(n, big.NewInt(1))
	}
	return n
}

func modelConvert(k api.Kind, v api.Value) (api.Value, int) {
	whole := func(k api.Kind) bool { return in(k, integers()...) || in(k, rows()...) }
	plain := func(k api.Kind) bool { return k == api.KBool || whole(k) }
	day := big.NewInt(dayNanos)
	switch {
	case !in(k, kinds()...):
		return api.Value{}, api.FaultKind
	case k == v.Kind:
		return v, 0
	case plain(v.Kind) && whole(k):
		return number(k, bigOf(v))
	case plain(v.Kind) && k == api.KBool:
		return truth(bigOf(v).Sign() != 0), 0
	case plain(v.Kind) && k == api.KLreal:
		return lreal(nearest(bigOf(v))), 0
	case v.Kind == api.KBool && k == api.KString && v.Bits == 1:
		return text("TRUE"), 0
	case v.Kind == api.KBool && k == api.KString:
		return text("FALSE"), 0
	case in(v.Kind, integers()...) && k == api.KString:
		return text(bigOf(v).String()), 0
	case v.Kind == api.KLint && in(k, spans()...), in(v.Kind, spans()...) && k == api.KLint:
		return number(k, bigOf(v))
	case v.Kind == api.KDt && k == api.KDate:
		return number(k, new(big.Int).Mul(new(big.Int).Div(bigOf(v), day), day))
	case v.Kind == api.KDt && k == api.KTod:
		return number(k, new(big.Int).Mod(bigOf(v), day))
	case v.Kind == api.KLreal && plain(k):
		return modelFromFloat(k, v)
	case v.Kind == api.KString && (k == api.KBool || in(k, integers()...)):
		return modelFromText(k, v.Text)
	}
	return api.Value{}, api.FaultKind
}

func modelFromFloat(k api.Kind, v api.Value) (api.Value, int) {
	f := math.Float64frombits(v.Bits)
	switch {
	case v.Bits == nanBits, k != api.KBool && math.IsInf(f, 0):
		return api.Value{}, api.FaultConvert
	case k == api.KBool:
		return truth(v.Bits&^minusBit != 0), 0
	}
	return number(k, roundedBig(f))
}

func modelFromText(k api.Kind, s string) (api.Value, int) {
	switch {
	case k == api.KBool && (s == "TRUE" || s == "FALSE"):
		return truth(s == "TRUE"), 0
	case k == api.KBool || !numberForm.MatchString(s):
		return api.Value{}, api.FaultConvert
	}
	n, _ := new(big.Int).SetString(s, 10)
	return number(k, n)
}

// P1.5: each kind to each kind, at its edges.
func TestConvert(t *testing.T) {
	for _, k := range append(kinds(), noKinds()...) {
		for _, v := range all() {
			want, fault := modelConvert(k, v)
			got, f := value.Convert(k, v)
			if got != want || f != fault {
				t.Errorf("%s to %d: %v %d; want %v %d", show(v), k, got, f, want, fault)
			}
		}
		for _, v := range wrong() {
			got, f := value.Convert(k, v)
			same(t, "may not be", got, f, api.Value{}, api.FaultKind)
		}
	}
}

// P1.5: numbers of floats around all edges of integers.
func TestConvertFloats(t *testing.T) {
	for _, k := range append(append(integers(), rows()...), api.KBool) {
		for i := range 66 {
			for _, d := range []float64{-2, -1.5, -1, -0.5, -0.25, 0, 0.25, 0.5, 0.75, 1, 1.5} {
				for _, f := range []float64{math.Ldexp(1, i) + d, -math.Ldexp(1, i) - d, math.Nextafter(math.Ldexp(1, i), 0)} {
					want, fault := modelConvert(k, lreal(f))
					got, is := value.Convert(k, lreal(f))
					if got != want || is != fault {
						t.Errorf("%v to %s: %v %d; want %v %d", f, value.Word(k), got, is, want, fault)
					}
				}
			}
		}
	}
}

// P1.5: examples of the chapter and edges that it names.
func TestConvertExamples(t *testing.T) {
	last := num(t, api.KDt, 84006*dayNanos-1)
	for _, x := range []struct {
		k     api.Kind
		v, is api.Value
		fault int
	}{
		{api.KInt, lreal(2.5), num(t, api.KInt, 2), 0},
		{api.KInt, lreal(3.5), num(t, api.KInt, 4), 0},
		{api.KInt, lreal(-2.5), num(t, api.KInt, -2), 0},
		{api.KInt, lreal(32767.5), api.Value{}, api.FaultConvert},
		{api.KInt, lreal(-32768.5), num(t, api.KInt, -32768), 0},
		{api.KUsint, lreal(-0.5), num(t, api.KUsint, 0), 0},
		{api.KUsint, lreal(-0.75), api.Value{}, api.FaultConvert},
		{api.KLint, lreal(1 << 63), api.Value{}, api.FaultConvert},
		{api.KLint, lreal(-(1 << 63)), num(t, api.KLint, math.MinInt64), 0},
		{api.KUlint, lreal(1 << 63), api.Value{Kind: api.KUlint, Bits: 1 << 63}, 0},
		{api.KUlint, lreal(1 << 64), api.Value{}, api.FaultConvert},
		{api.KInt, api.Value{Kind: api.KLreal, Bits: nanBits}, api.Value{}, api.FaultConvert},
		{api.KBool, api.Value{Kind: api.KLreal, Bits: nanBits}, api.Value{}, api.FaultConvert},
		{api.KBool, api.Value{Kind: api.KLreal, Bits: minusBit}, truth(false), 0},
		{api.KBool, lreal(math.Inf(-1)), truth(true), 0},
		{api.KBool, lreal(math.SmallestNonzeroFloat64), truth(true), 0},
		{api.KLint, lreal(math.Inf(1)), api.Value{}, api.FaultConvert},
		{api.KByte, num(t, api.KInt, -1), api.Value{}, api.FaultConvert},
		{api.KUlint, num(t, api.KLint, -1), api.Value{}, api.FaultConvert},
		{api.KLint, api.Value{Kind: api.KUlint, Bits: 1 << 63}, api.Value{}, api.FaultConvert},
		{api.KLreal, api.Value{Kind: api.KUlint, Bits: 1<<64 - 1}, lreal(1 << 64), 0},
		{api.KLreal, truth(true), lreal(1), 0},
		{api.KLreal, api.Value{Kind: api.KLword, Bits: 1<<64 - 1}, lreal(1 << 64), 0},
		{api.KDate, num(t, api.KLint, dayNanos), num(t, api.KDate, dayNanos), 0},
		{api.KDate, num(t, api.KLint, dayNanos+1), api.Value{}, api.FaultConvert},
		{api.KTod, num(t, api.KLint, dayNanos), api.Value{}, api.FaultConvert},
		{api.KDt, num(t, api.KLint, -1), api.Value{}, api.FaultConvert},
		{api.KTime, num(t, api.KLint, math.MinInt64), num(t, api.KTime, math.MinInt64), 0},
		{api.KTime, num(t, api.KDint, 1), api.Value{}, api.FaultKind},
		{api.KUlint, num(t, api.KTime, 1), api.Value{}, api.FaultKind},
		{api.KBool, num(t, api.KTime, 1), api.Value{}, api.FaultKind},
		{api.KLreal, num(t, api.KTime, 1), api.Value{}, api.FaultKind},
		{api.KString, num(t, api.KTime, 1), api.Value{}, api.FaultKind},
		{api.KDt, num(t, api.KDate, 0), api.Value{}, api.FaultKind},
		{api.KDate, last, num(t, api.KDate, 84005*dayNanos), 0},
		{api.KTod, last, num(t, api.KTod, dayNanos-1), 0},
		{api.KString, num(t, api.KByte, 1), api.Value{}, api.FaultKind},
		{api.KString, lreal(1), api.Value{}, api.FaultKind},
		{api.KLreal, text("1"), api.Value{}, api.FaultKind},
		{api.KByte, text("1"), api.Value{}, api.FaultKind},
		{api.KTime, text("1"), api.Value{}, api.FaultKind},
		{api.KRef, num(t, api.KInt, 1), api.Value{}, api.FaultKind},
	} {
		v, f := value.Convert(x.k, x.v)
		same(t, show(x.v)+" to "+value.Word(x.k), v, f, x.is, x.fault)
	}
}

// P1.5: texts that are numbers, just in the printed form.
func TestConvertTexts(t *testing.T) {
	for _, s := range []string{"", "-", "--1", "-0", "00", "01", "-01", "+1", " 1", "1 ", "1_0", "1.0", "1e3", "0x1", "16#1", "a", "1a", "٣", "true", "True", "TRUE ", "T", "128", "-129", "99999999999999999999", strings.Repeat("1", api.MaxText)} {
		for _, k := range []api.Kind{api.KSint, api.KBool} {
			v, f := value.Convert(k, text(s))
			same(t, s, v, f, api.Value{}, api.FaultConvert)
		}
	}
	for s, want := range map[string]api.Value{
		"0":                    num(t, api.KSint, 0),
		"127":                  num(t, api.KSint, 127),
		"-128":                 num(t, api.KSint, -128),
		"-9223372036854775808": num(t, api.KLint, math.MinInt64),
		"18446744073709551615": {Kind: api.KUlint, Bits: 1<<64 - 1},
		"TRUE":                 truth(true),
		"FALSE":                truth(false),
	} {
		v, f := value.Convert(want.Kind, text(s))
		same(t, s, v, f, want, 0)
	}
	for s, k := range map[string]api.Kind{"18446744073709551616": api.KUlint, "9223372036854775808": api.KLint, "-9223372036854775809": api.KLint, "-1": api.KUlint} {
		v, f := value.Convert(k, text(s))
		same(t, s, v, f, api.Value{}, api.FaultConvert)
	}
}

// P1.6: kinds' words.
func TestWord(t *testing.T) {
	list := strings.Fields("BOOL SINT INT DINT LINT USINT UINT UDINT ULINT BYTE WORD DWORD LWORD TIME DATE TOD DT LREAL STRING")
	for i, w := range list {
		k, ok := value.Kind(w)
		if value.Word(api.Kind(i+1)) != w || k != api.Kind(i+1) || !ok {
			t.Error(w, k, ok)
		}
	}
	for k := range 256 {
		if (k == 0 || k > len(list)) && value.Word(api.Kind(k)) != "" {
			t.Error(k)
		}
	}
	for _, s := range []string{"", "bool", "Int", "INT ", " INT", "REF", "REAL", "T", "TIME_OF_DAY", "INTEGER", "\x00"} {
		if k, ok := value.Kind(s); k != api.KNone || ok {
			t.Error(s, k, ok)
		}
	}
}

// P1.6: values' texts.
func TestPrint(t *testing.T) {
	for _, x := range []struct {
		v    api.Value
		want string
	}{
		{truth(true), "TRUE"}, {truth(false), "FALSE"},
		{num(t, api.KSint, -128), "-128"}, {num(t, api.KInt, 0), "0"}, {num(t, api.KLint, math.MinInt64), "-9223372036854775808"}, {api.Value{Kind: api.KUlint, Bits: 1<<64 - 1}, "18446744073709551615"},
		{num(t, api.KTime, -1), "-1"}, {num(t, api.KDate, dayNanos), "86400000000000"}, {num(t, api.KTod, 5), "5"}, {num(t, api.KDt, 84006*dayNanos-1), "7258118399999999999"},
		{num(t, api.KByte, 0), "16#0"}, {num(t, api.KByte, 10), "16#A"}, {num(t, api.KWord, 0xbeef), "16#BEEF"}, {api.Value{Kind: api.KLword, Bits: 1<<64 - 1}, "16#FFFFFFFFFFFFFFFF"},
		{lreal(0), "16#0000000000000000"}, {api.Value{Kind: api.KLreal, Bits: minusBit}, "16#8000000000000000"}, {lreal(1), "16#3FF0000000000000"}, {lreal(math.SmallestNonzeroFloat64), "16#0000000000000001"}, {api.Value{Kind: api.KLreal, Bits: nanBits}, "16#7FF8000000000001"}, {lreal(math.Inf(-1)), "16#FFF0000000000000"},
		{text(""), ""}, {text("a'\x00\xff"), "a'\x00\xff"}, {text(strings.Repeat("q", api.MaxText)), strings.Repeat("q", api.MaxText)},
	} {
		if got := value.Print(x.v); got != x.want {
			t.Errorf("%v: %q, want %q", x.v, got, x.want)
		}
	}
	for _, v := range wrong() {
		if got := value.Print(v); got != "" {
			t.Errorf("%v: %q", v, got)
		}
	}
}
