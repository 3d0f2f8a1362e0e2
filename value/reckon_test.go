package value_test

import (
	"math"
	"math/big"
	"strings"
	"testing"

	"relay/api"
	"relay/value"
)

// ops is all operations, and numbers that are none.
func ops() []int {
	l := []int{-1, 1000, math.MinInt, math.MaxInt}
	for op := range api.NumOps + 2 {
		l = append(l, op)
	}
	return l
}

type line struct {
	op   int
	a, b api.Kind
}

// lines is P1.3's table, as far as it reckons numbers: the kinds that they come to.
var lines = makeLines()

func makeLines() map[line]api.Kind {
	l := map[line]api.Kind{
		{api.OpAdd, api.KTime, api.KTime}: api.KTime, {api.OpSub, api.KTime, api.KTime}: api.KTime,
		{api.OpSub, api.KDate, api.KDate}: api.KTime, {api.OpSub, api.KTod, api.KTod}: api.KTime, {api.OpSub, api.KDt, api.KDt}: api.KTime,
		{api.OpAdd, api.KDt, api.KTime}: api.KDt, {api.OpSub, api.KDt, api.KTime}: api.KDt,
		{api.OpAdd, api.KTod, api.KTime}: api.KTod, {api.OpSub, api.KTod, api.KTime}: api.KTod,
		{api.OpMul, api.KTime, api.KLint}: api.KTime, {api.OpDiv, api.KTime, api.KLint}: api.KTime,
	}
	for _, k := range integers() {
		for _, op := range []int{api.OpAdd, api.OpSub, api.OpMul, api.OpDiv, api.OpMod} {
			l[line{op, k, k}] = k
		}
	}
	return l
}

func modelNumbers(op int, k api.Kind, a, b *big.Int) (api.Value, int) {
	n := new(big.Int)
	switch {
	case op == api.OpAdd:
		n.Add(a, b)
	case op == api.OpSub:
		n.Sub(a, b)
	case op == api.OpMul:
		n.Mul(a, b)
	case b.Sign() == 0:
		return api.Value{}, api.FaultZero
	case op == api.OpDiv:
		n.Quo(a, b)
	case op == api.OpMod:
		n.Rem(a, b)
	}
	v, ok := make1(k, n)
	if !ok {
		return api.Value{}, api.FaultOver
	}
	return v, 0
}

func modelOrder(op int, a, b api.Value) api.Value {
	n := 0
	switch {
	case a.Kind == api.KString:
		n = strings.Compare(a.Text, b.Text)
	case a.Kind == api.KLreal && (a.Bits == nanBits || b.Bits == nanBits):
		return truth(op == api.OpNe)
	case a.Kind == api.KLreal:
		n = bigFloat(a).Cmp(bigFloat(b))
	default:
		n = bigOf(a).Cmp(bigOf(b))
	}
	switch op {
	case api.OpEq:
		return truth(n == 0)
	case api.OpNe:
		return truth(n != 0)
	case api.OpLt:
		return truth(n < 0)
	case api.OpLe:
		return truth(n <= 0)
	case api.OpGt:
		return truth(n > 0)
	}
	return truth(n >= 0)
}

func bigFloat(v api.Value) *big.Float { return big.NewFloat(math.Float64frombits(v.Bits)) }

func modelBits(op int, k api.Kind, a, b uint64) api.Value {
	n := new(big.Int)
	x, y := new(big.Int).SetUint64(a), new(big.Int).SetUint64(b)
	switch op {
	case api.OpAnd:
		n.And(x, y)
	case api.OpOr:
		n.Or(x, y)
	default:
		n.Xor(x, y)
	}
	return api.Value{Kind: k, Bits: n.Uint64()}
}

// modelFloats reckons finite numbers as fractions, rounded once; the rest by what IEEE 754 says of zeros and infinities.
func modelFloats(op int, a, b api.Value) api.Value {
	x, y := math.Float64frombits(a.Bits), math.Float64frombits(b.Bits)
	if op == api.OpSub && b.Bits != nanBits {
		b.Bits ^= minusBit
		return modelFloats(api.OpAdd, a, b)
	}
	nan := api.Value{Kind: api.KLreal, Bits: nanBits}
	apart := (a.Bits ^ b.Bits) & minusBit
	sized := func(f float64) api.Value { return api.Value{Kind: api.KLreal, Bits: math.Float64bits(f) | apart} }
	xInf, yInf, xZero, yZero := math.IsInf(x, 0), math.IsInf(y, 0), x == 0, y == 0
	switch {
	case a.Bits == nanBits || b.Bits == nanBits:
		return nan
	case op == api.OpAdd && xInf && yInf && apart != 0, op == api.OpMul && (xInf && yZero || xZero && yInf), op == api.OpDiv && (xInf && yInf || xZero && yZero):
		return nan
	case op == api.OpAdd && xInf:
		return a
	case op == api.OpAdd && yInf:
		return b
	case op == api.OpMul && (xInf || yInf), op == api.OpDiv && (xInf || yZero):
		return sized(math.Inf(1))
	case op == api.OpDiv && yInf, op != api.OpAdd && xZero, op == api.OpMul && yZero:
		return sized(0)
	}
	return modelFractions(op, a, b, apart)
}

func modelFractions(op int, a, b api.Value, apart uint64) api.Value {
	x := new(big.Rat).SetFloat64(math.Float64frombits(a.Bits))
	y := new(big.Rat).SetFloat64(math.Float64frombits(b.Bits))
	n := new(big.Rat)
	switch op {
	case api.OpAdd:
		n.Add(x, y)
		if n.Sign() == 0 { // a sum of 0 is +0, but of -0 twice
			return api.Value{Kind: api.KLreal, Bits: a.Bits & b.Bits & minusBit}
		}
		apart = 0
		if n.Sign() < 0 {
			apart = minusBit
		}
	case api.OpMul:
		n.Mul(x, y)
	default:
		n.Quo(x, y)
	}
	f, _ := n.Abs(n).Float64()
	return api.Value{Kind: api.KLreal, Bits: math.Float64bits(f) | apart}
}

func model(op int, a, b api.Value) (api.Value, int) {
	alike := a.Kind == b.Kind
	k := lines[line{op, a.Kind, b.Kind}]
	switch {
	case alike && op >= api.OpEq && op <= api.OpGe:
		return modelOrder(op, a, b), 0
	case alike && a.Kind == api.KLreal && op >= api.OpAdd && op <= api.OpDiv:
		return modelFloats(op, a, b), 0
	case alike && (a.Kind == api.KBool || in(a.Kind, rows()...)) && op >= api.OpAnd && op <= api.OpXor:
		return modelBits(op, a.Kind, a.Bits, b.Bits), 0
	case k != api.KNone:
		return modelNumbers(op, k, bigOf(a), bigOf(b))
	}
	return api.Value{}, api.FaultKind
}

// P1.3: each operation on each two kinds, at their edges.
func TestReckon(t *testing.T) {
	for _, op := range ops() {
		for _, k := range kinds() {
			for _, other := range kinds() {
				right := edges(other)
				left := edges(k)
				if k != other && lines[line{op, k, other}] == api.KNone { // they have no line, whatever the values are
					left, right = left[:2], right[:2]
				}
				for _, a := range left {
					for _, b := range right {
						want, fault := model(op, a, b)
						v, f := value.Reckon(op, a, b)
						if v != want || f != fault {
							t.Fatalf("op %d, %s, %s: %v fault %d; want %v fault %d", op, show(a), show(b), v, f, want, fault)
						}
					}
				}
			}
		}
	}
}

// P1.3: what may not be is told ahead of all else.
func TestReckonWrong(t *testing.T) {
	for _, bad := range wrong() {
		for _, op := range ops() {
			for _, good := range []api.Value{{Kind: bad.Kind}, num(t, api.KInt, 0), num(t, api.KTime, 0), bad} {
				v, f := value.Reckon(op, bad, good)
				same(t, "left", v, f, api.Value{}, api.FaultKind)
				v, f = value.Reckon(op, good, bad)
				same(t, "right", v, f, api.Value{}, api.FaultKind)
			}
		}
	}
}

// P1.3: examples of the chapter and edges that it names.
func TestReckonNumbers(t *testing.T) {
	for _, x := range []struct {
		op      int
		k, l    api.Kind
		a, b    int64
		is      api.Kind
		n       int64
		isFault int
	}{
		{api.OpAdd, api.KInt, api.KInt, 32767, 1, 0, 0, api.FaultOver},
		{api.OpAdd, api.KInt, api.KInt, 32766, 1, api.KInt, 32767, 0},
		{api.OpSub, api.KInt, api.KInt, -32768, 1, 0, 0, api.FaultOver},
		{api.OpMul, api.KInt, api.KInt, -32768, -1, 0, 0, api.FaultOver},
		{api.OpDiv, api.KSint, api.KSint, -128, -1, 0, 0, api.FaultOver},
		{api.OpMod, api.KSint, api.KSint, -128, -1, api.KSint, 0, 0},
		{api.OpDiv, api.KLint, api.KLint, math.MinInt64, -1, 0, 0, api.FaultOver},
		{api.OpMod, api.KLint, api.KLint, math.MinInt64, -1, api.KLint, 0, 0},
		{api.OpDiv, api.KDint, api.KDint, -7, 2, api.KDint, -3, 0},
		{api.OpMod, api.KDint, api.KDint, -7, 2, api.KDint, -1, 0},
		{api.OpDiv, api.KDint, api.KDint, 7, -2, api.KDint, -3, 0},
		{api.OpMod, api.KDint, api.KDint, 7, -2, api.KDint, 1, 0},
		{api.OpDiv, api.KLint, api.KLint, 0, 0, 0, 0, api.FaultZero},
		{api.OpMod, api.KUsint, api.KUsint, 5, 0, 0, 0, api.FaultZero},
		{api.OpSub, api.KUlint, api.KUlint, 0, 1, 0, 0, api.FaultOver},
		{api.OpAdd, api.KLint, api.KLint, math.MaxInt64, 1, 0, 0, api.FaultOver},
		{api.OpAdd, api.KLint, api.KLint, math.MinInt64, math.MaxInt64, api.KLint, -1, 0},
		{api.OpMul, api.KLint, api.KLint, 1 << 32, 1 << 32, 0, 0, api.FaultOver},
		{api.OpMul, api.KLint, api.KLint, 1 << 32, -1 << 31, api.KLint, math.MinInt64, 0},
		{api.OpSub, api.KTod, api.KTime, 0, 1, 0, 0, api.FaultOver},
		{api.OpAdd, api.KTod, api.KTime, dayNanos - 1, 1, 0, 0, api.FaultOver},
		{api.OpAdd, api.KTod, api.KTime, dayNanos - 1, -1, api.KTod, dayNanos - 2, 0},
		{api.OpAdd, api.KDt, api.KTime, 84006*dayNanos - 1, 1, 0, 0, api.FaultOver},
		{api.OpSub, api.KDt, api.KTime, dayNanos, dayNanos, api.KDt, 0, 0},
		{api.OpSub, api.KDt, api.KTime, 5, math.MinInt64, 0, 0, api.FaultOver},
		{api.OpSub, api.KDate, api.KDate, 0, 84005 * dayNanos, api.KTime, -84005 * dayNanos, 0},
		{api.OpSub, api.KTod, api.KTod, 0, dayNanos - 1, api.KTime, 1 - dayNanos, 0},
		{api.OpSub, api.KDt, api.KDt, 10, 3, api.KTime, 7, 0},
		{api.OpMul, api.KTime, api.KLint, 5, -3, api.KTime, -15, 0},
		{api.OpMul, api.KTime, api.KLint, math.MinInt64, -1, 0, 0, api.FaultOver},
		{api.OpDiv, api.KTime, api.KLint, -5, 2, api.KTime, -2, 0},
		{api.OpDiv, api.KTime, api.KLint, 5, 0, 0, 0, api.FaultZero},
		{api.OpDiv, api.KTime, api.KLint, math.MinInt64, -1, 0, 0, api.FaultOver},
		{api.OpMod, api.KTime, api.KLint, 5, 2, 0, 0, api.FaultKind},
		{api.OpMul, api.KLint, api.KTime, 5, 2, 0, 0, api.FaultKind},
		{api.OpAdd, api.KTime, api.KTod, 5, 2, 0, 0, api.FaultKind},
		{api.OpAdd, api.KTod, api.KTod, 5, 2, 0, 0, api.FaultKind},
		{api.OpAdd, api.KDate, api.KTime, 0, dayNanos, 0, 0, api.FaultKind},
		{api.OpMul, api.KTime, api.KTime, 5, 2, 0, 0, api.FaultKind},
		{api.OpMul, api.KTime, api.KInt, 5, 2, 0, 0, api.FaultKind},
		{api.OpAdd, api.KInt, api.KDint, 5, 2, 0, 0, api.FaultKind},
		{api.OpAdd, api.KByte, api.KByte, 5, 2, 0, 0, api.FaultKind},
		{api.OpAdd, api.KBool, api.KBool, 1, 0, 0, 0, api.FaultKind},
		{api.OpAnd, api.KInt, api.KInt, 5, 2, 0, 0, api.FaultKind},
		{api.OpAnd, api.KByte, api.KWord, 5, 2, 0, 0, api.FaultKind},
		{api.OpOr, api.KByte, api.KByte, 0xf0, 0x3c, api.KByte, 0xfc, 0},
		{api.OpXor, api.KBool, api.KBool, 1, 1, api.KBool, 0, 0},
		{api.OpEq, api.KInt, api.KDint, 5, 5, 0, 0, api.FaultKind},
		{api.OpNeg, api.KInt, api.KInt, 5, 5, 0, 0, api.FaultKind},
		{api.OpNot, api.KBool, api.KBool, 1, 1, 0, 0, api.FaultKind},
		{api.OpLt, api.KBool, api.KBool, 0, 1, api.KBool, 1, 0},
		{api.OpLt, api.KTime, api.KTime, math.MinInt64, 0, api.KBool, 1, 0},
		{api.OpGe, api.KDate, api.KDate, dayNanos, dayNanos, api.KBool, 1, 0},
	} {
		want := api.Value{Kind: x.is, Bits: uint64(x.n)}
		v, f := value.Reckon(x.op, num(t, x.k, x.a), num(t, x.l, x.b))
		if v != want || f != x.isFault {
			t.Errorf("%+v: %v %d", x, v, f)
		}
	}
}

// P1.3: floats, by their bits.
func TestReckonFloats(t *testing.T) {
	inf, minus := math.Inf(1), math.Copysign(0, -1)
	for _, x := range []struct {
		op   int
		a, b float64
		bits uint64
	}{
		{api.OpDiv, 0, 0, nanBits},
		{api.OpDiv, 1, 0, 0x7ff0000000000000},
		{api.OpDiv, 1, minus, 0xfff0000000000000},
		{api.OpSub, inf, inf, nanBits},
		{api.OpMul, inf, 0, nanBits},
		{api.OpDiv, inf, inf, nanBits},
		{api.OpAdd, inf, -inf, nanBits},
		{api.OpAdd, 0.1, 0.2, 0x3fd3333333333334},
		{api.OpMul, 0.1, 0.1, 0x3f847ae147ae147c},
		{api.OpDiv, 1, 3, 0x3fd5555555555555},
		{api.OpAdd, minus, minus, 1 << 63},
		{api.OpAdd, minus, 0, 0},
		{api.OpSub, 0, 0, 0},
		{api.OpSub, minus, 0, 1 << 63},
		{api.OpMul, -1, 0, 1 << 63},
		{api.OpDiv, 0, -5, 1 << 63},
		{api.OpAdd, math.MaxFloat64, math.MaxFloat64, 0x7ff0000000000000},
		{api.OpMul, math.SmallestNonzeroFloat64, 0.5, 0},
		{api.OpMul, -math.SmallestNonzeroFloat64, 0.5, 1 << 63},
		{api.OpMul, math.SmallestNonzeroFloat64, 0.75, 1},
		{api.OpAdd, 1, 1.0 / (1 << 53), 0x3ff0000000000000},
		{api.OpAdd, 1, 3.0 / (1 << 53), 0x3ff0000000000002},
	} {
		v, f := value.Reckon(x.op, lreal(x.a), lreal(x.b))
		if v != (api.Value{Kind: api.KLreal, Bits: x.bits}) || f != 0 {
			t.Errorf("%+v: %x %d", x, v.Bits, f)
		}
	}
	for _, op := range []int{api.OpMod, api.OpAnd, api.OpOr, api.OpXor, api.OpNeg, api.OpNot} {
		v, f := value.Reckon(op, lreal(1), lreal(1))
		same(t, "no such line", v, f, api.Value{}, api.FaultKind)
	}
}

// P1.3: comparisons of floats, texts and numbers.
func TestReckonOrder(t *testing.T) {
	nan := api.Value{Kind: api.KLreal, Bits: nanBits}
	minus := api.Value{Kind: api.KLreal, Bits: minusBit}
	great, greater := api.Value{Kind: api.KUlint, Bits: 1 << 63}, api.Value{Kind: api.KUlint, Bits: 1<<64 - 1}
	for _, x := range []struct {
		a, b api.Value
		is   string // of Eq, Ne, Lt, Le, Gt, Ge
	}{
		{minus, lreal(0), "100101"},
		{nan, nan, "010000"},
		{nan, lreal(1), "010000"},
		{lreal(math.Inf(-1)), nan, "010000"},
		{lreal(math.Inf(-1)), lreal(-math.MaxFloat64), "011100"},
		{lreal(1), lreal(1), "100101"},
		{text("AB"), text("ABC"), "011100"},
		{text(""), text("\x00"), "011100"},
		{text("\xff"), text("z"), "010011"},
		{text("B"), text("ABC"), "010011"},
		{text("same"), text("same"), "100101"},
		{truth(false), truth(true), "011100"},
		{great, greater, "011100"},
		{greater, num(t, api.KUlint, 1), "010011"},
		{num(t, api.KLint, -1), num(t, api.KLint, 1), "011100"},
		{num(t, api.KSint, -128), num(t, api.KSint, -127), "011100"},
	} {
		got := ""
		for op := api.OpEq; op <= api.OpGe; op++ {
			v, f := value.Reckon(op, x.a, x.b)
			if v.Kind != api.KBool || f != 0 {
				t.Error(x, v, f)
			}
			got += string('0' + rune(v.Bits))
		}
		if got != x.is {
			t.Errorf("%s, %s: %s, want %s", show(x.a), show(x.b), got, x.is)
		}
	}
}

// P1.4: operations on one value.
func TestTurn(t *testing.T) {
	for _, a := range all() {
		for _, op := range ops() {
			var want api.Value
			fault := api.FaultKind
			switch {
			case op == api.OpNeg && isSigned(a.Kind):
				v, ok := make1(a.Kind, new(big.Int).Neg(bigOf(a)))
				want, fault = v, 0
				if !ok {
					fault = api.FaultOver
				}
			case op == api.OpNeg && a.Kind == api.KLreal && a.Bits == nanBits:
				want, fault = a, 0
			case op == api.OpNeg && a.Kind == api.KLreal:
				want, fault = api.Value{Kind: a.Kind, Bits: a.Bits ^ minusBit}, 0
			case op == api.OpNot && (a.Kind == api.KBool || in(a.Kind, rows()...)):
				_, hi, _ := bounds(a.Kind)
				want, fault = api.Value{Kind: a.Kind, Bits: hi.Uint64() - a.Bits}, 0
			}
			v, f := value.Turn(op, a)
			if v != want || f != fault {
				t.Errorf("op %d, %s: %v %d", op, show(a), v, f)
			}
		}
	}
	for _, a := range wrong() {
		for _, op := range ops() {
			v, f := value.Turn(op, a)
			same(t, "may not be", v, f, api.Value{}, api.FaultKind)
		}
	}
}

// P1.4: the least numbers have no opposite; zeros of floats have.
func TestTurnEdges(t *testing.T) {
	for _, x := range []struct {
		op    int
		a, is api.Value
		fault int
	}{
		{api.OpNeg, num(t, api.KSint, -128), api.Value{}, api.FaultOver},
		{api.OpNeg, num(t, api.KLint, math.MinInt64), api.Value{}, api.FaultOver},
		{api.OpNeg, num(t, api.KTime, math.MinInt64), api.Value{}, api.FaultOver},
		{api.OpNeg, num(t, api.KDint, 5), num(t, api.KDint, -5), 0},
		{api.OpNeg, num(t, api.KInt, 0), num(t, api.KInt, 0), 0},
		{api.OpNeg, num(t, api.KUint, 0), api.Value{}, api.FaultKind},
		{api.OpNeg, num(t, api.KTod, 0), api.Value{}, api.FaultKind},
		{api.OpNeg, lreal(0), api.Value{Kind: api.KLreal, Bits: minusBit}, 0},
		{api.OpNot, truth(true), truth(false), 0},
		{api.OpNot, num(t, api.KByte, 0x0f), num(t, api.KByte, 0xf0), 0},
		{api.OpNot, num(t, api.KLword, 0), api.Value{Kind: api.KLword, Bits: 1<<64 - 1}, 0},
		{api.OpNot, num(t, api.KInt, 0), api.Value{}, api.FaultKind},
	} {
		v, f := value.Turn(x.op, x.a)
		same(t, show(x.a), v, f, x.is, x.fault)
	}
}
