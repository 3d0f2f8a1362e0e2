package value_test

import (
	"math"
	"math/big"
	"strings"
	"testing"

	"relay/api"
	"relay/value"
)

// P1.1: which values may be.
func TestMay(t *testing.T) {
	for _, v := range all() {
		if !value.May(v) {
			t.Errorf("may not be: %#v", v)
		}
	}
	for _, v := range wrong() {
		if value.May(v) {
			t.Errorf("may be: %#v", v)
		}
	}
}

// P1.1: of each kind the bits around all powers of two, as numbers of 64 bits with and without a sign.
func TestMayBits(t *testing.T) {
	for _, k := range append(append(integers(), rows()...), api.KBool, api.KTime, api.KDate, api.KTod, api.KDt) {
		for i := range 64 {
			for d := range uint64(5) {
				for _, bits := range []uint64{1<<i + d - 2, -(1<<i + d - 2)} {
					v := api.Value{Kind: k, Bits: bits}
					_, ok := make1(k, bigOf(v))
					if value.May(v) != ok {
						t.Errorf("%#v: May is %v", v, !ok)
					}
				}
			}
		}
	}
}

// P1.1: the fault that keeps a value from a variable.
func TestFits(t *testing.T) {
	whole := func(v api.Value) api.Type { return api.Type{Kind: v.Kind} }
	for _, v := range all() {
		if f := value.Fits(whole(v), v); f != 0 {
			t.Errorf("%s for its own kind: %d", show(v), f)
		}
		for _, k := range append(kinds(), noKinds()...) {
			if f := value.Fits(api.Type{Kind: k, Sub: true, Lo: math.MinInt, Hi: math.MaxInt}, v); k != v.Kind && f != api.FaultKind {
				t.Errorf("%s for kind %d: %d", show(v), k, f)
			}
		}
	}
	for _, v := range wrong() {
		if f := value.Fits(whole(v), v); f != api.FaultKind {
			t.Errorf("%#v: %d", v, f)
		}
	}
}

func TestFitsSubrange(t *testing.T) {
	ends := []int{math.MinInt, -129, -128, -1, 0, 1, 100, 127, 255, math.MaxInt - 1, math.MaxInt}
	for _, k := range kinds() {
		for _, v := range edges(k) {
			for _, lo := range ends {
				for _, hi := range ends {
					want := 0
					if in(k, integers()...) && (bigOf(v).Cmp(big.NewInt(int64(lo))) < 0 || bigOf(v).Cmp(big.NewInt(int64(hi))) > 0) {
						want = api.FaultRange
					}
					if f := value.Fits(api.Type{Kind: k, Sub: true, Lo: lo, Hi: hi}, v); f != want {
						t.Fatalf("%s from %d to %d: %d, want %d", show(v), lo, hi, f, want)
					}
					if f := value.Fits(api.Type{Kind: k, Lo: lo, Hi: hi}, v); f != 0 {
						t.Fatalf("%s without Sub: %d", show(v), f)
					}
				}
			}
		}
	}
	// Above 2^63 - 1 lies above every Hi.
	if f := value.Fits(api.Type{Kind: api.KUlint, Sub: true, Lo: math.MinInt, Hi: math.MaxInt}, api.Value{Kind: api.KUlint, Bits: 1 << 63}); f != api.FaultRange {
		t.Error(f)
	}
}

func TestFitsText(t *testing.T) {
	for _, x := range []struct{ size, max, fault int }{
		{0, 1, 0}, {1, 1, 0}, {2, 1, api.FaultText}, {254, 253, api.FaultText}, {254, 254, 0}, {254, 255, 0}, {254, 0, 0}, {254, -1, 0}, {254, math.MinInt, 0}, {254, math.MaxInt, 0}, {255, 300, api.FaultKind}, {255, 0, api.FaultKind}, {5, 4, api.FaultText},
	} {
		if f := value.Fits(api.Type{Kind: api.KString, Max: x.max}, text(strings.Repeat("y", x.size))); f != x.fault {
			t.Error(x, f)
		}
	}
	// Max is of texts alone.
	if f := value.Fits(api.Type{Kind: api.KInt, Max: 1}, num(t, api.KInt, 30000)); f != 0 {
		t.Error(f)
	}
}

// P1.2: values of all kinds.
func TestZero(t *testing.T) {
	for _, k := range kinds() {
		if v := value.Zero(k); v != (api.Value{Kind: k}) {
			t.Errorf("%d: %v", k, v)
		}
	}
	for _, k := range noKinds() {
		if v := value.Zero(k); v != (api.Value{}) {
			t.Errorf("%d: %v", k, v)
		}
	}
}

func TestInt(t *testing.T) {
	tries := []int{math.MinInt, math.MinInt + 1, math.MaxInt, math.MaxInt - 1, dayNanos, dayNanos - 1, dayNanos + 1, -dayNanos, 84005 * dayNanos, 84006 * dayNanos, 84006*dayNanos - 1}
	for i := range 63 {
		for d := -2; d <= 2; d++ {
			tries = append(tries, 1<<i+d, -(1<<i + d))
		}
	}
	for _, k := range append(kinds(), noKinds()...) {
		for _, n := range tries {
			want, ok := make1(k, big.NewInt(int64(n)))
			fault := 0
			if !ok {
				fault = api.FaultOver
			}
			if _, _, has := bounds(k); !has {
				fault = api.FaultKind
			}
			v, f := value.Int(k, n)
			same(t, value.Word(k), v, f, want, fault)
		}
	}
}

func TestBool(t *testing.T) {
	if value.Bool(true) != truth(true) || value.Bool(false) != truth(false) {
		t.Error(value.Bool(true), value.Bool(false))
	}
}

func TestLreal(t *testing.T) {
	for _, v := range floats() {
		if got := value.Lreal(math.Float64frombits(v.Bits)); got != v {
			t.Errorf("%x: %x", v.Bits, got.Bits)
		}
	}
	for _, bits := range []uint64{0x7ff8000000000000, 0x7ff8000000000001, 0xfff8000000000000, 0x7fffffffffffffff, 0xffffffffffffffff, 0x7ff8000000000123} {
		if got := value.Lreal(math.Float64frombits(bits)); got != (api.Value{Kind: api.KLreal, Bits: nanBits}) {
			t.Errorf("%x: %x", bits, got.Bits)
		}
	}
}

func TestText(t *testing.T) {
	for _, s := range []string{"", "a", "\x00\xff", strings.Repeat("z", api.MaxText)} {
		v, f := value.Text(s)
		same(t, s, v, f, text(s), 0)
	}
	for _, n := range []int{api.MaxText + 1, 1000, 1 << 20} {
		v, f := value.Text(strings.Repeat("z", n))
		same(t, "too long", v, f, api.Value{}, api.FaultText)
	}
}

func TestNumber(t *testing.T) {
	for _, v := range all() {
		n, ok := value.Number(v)
		want := 0
		has := v.Kind != api.KLreal && v.Kind != api.KString && bigOf(v).IsInt64()
		if has {
			want = int(bigOf(v).Int64())
		}
		if n != want || ok != has {
			t.Errorf("%s: %d %v", show(v), n, ok)
		}
	}
	for _, v := range append(wrong(), api.Value{Kind: api.KUlint, Bits: 1 << 63}, api.Value{Kind: api.KLword, Bits: 1<<64 - 1}) {
		if n, ok := value.Number(v); n != 0 || ok {
			t.Errorf("%#v: %d %v", v, n, ok)
		}
	}
}

// nearest is the float nearest to a number, by the library's exact fractions.
func nearest(n *big.Int) float64 {
	f, _ := new(big.Rat).SetInt(n).Float64()
	return f
}

func TestFloat(t *testing.T) {
	for _, v := range all() {
		f, ok := value.Float(v)
		want, has := 0.0, false
		switch {
		case v.Kind == api.KLreal:
			want, has = math.Float64frombits(v.Bits), true
		case in(v.Kind, integers()...):
			want, has = nearest(bigOf(v)), true
		}
		if math.Float64bits(f) != math.Float64bits(want) || ok != has {
			t.Errorf("%s: %v %v", show(v), f, ok)
		}
	}
	for _, v := range wrong() {
		if f, ok := value.Float(v); math.Float64bits(f) != 0 || ok {
			t.Errorf("%#v: %v %v", v, f, ok)
		}
	}
}

// P1.2: of two floats as near the even one, on both sides of 0 and up to 2^64.
func TestFloatTies(t *testing.T) {
	for _, x := range []struct {
		v api.Value
		f float64
	}{
		{api.Value{Kind: api.KLint, Bits: 1<<53 + 1}, 1 << 53},
		{api.Value{Kind: api.KLint, Bits: 1<<53 + 3}, 1<<53 + 4},
		{num(t, api.KLint, -(1<<53 + 1)), -(1 << 53)},
		{num(t, api.KLint, -(1<<53 + 3)), -(1<<53 + 4)},
		{num(t, api.KLint, math.MaxInt64), 1 << 63},
		{num(t, api.KLint, math.MinInt64), -(1 << 63)},
		{api.Value{Kind: api.KUlint, Bits: 1<<63 + 1<<10}, 1 << 63},
		{api.Value{Kind: api.KUlint, Bits: 1<<63 + 1<<10 + 1}, 1<<63 + 1<<11},
		{api.Value{Kind: api.KUlint, Bits: 1<<63 + 3<<10}, 1<<63 + 1<<12},
		{api.Value{Kind: api.KUlint, Bits: 1<<64 - 1<<10 - 1}, 1<<64 - 1<<11},
		{api.Value{Kind: api.KUlint, Bits: 1<<64 - 1}, 1 << 64},
	} {
		if f, ok := value.Float(x.v); f != x.f || !ok {
			t.Errorf("%s: %v", show(x.v), f)
		}
		if v, f := value.Convert(api.KLreal, x.v); v != lreal(x.f) || f != 0 {
			t.Errorf("%s: %v %d", show(x.v), v, f)
		}
	}
}
