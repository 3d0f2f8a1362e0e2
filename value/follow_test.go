package value_test

import (
	"math"
	"testing"

	"relay/api"
	"relay/value"
)

// mayBe holds an answer against P1.7: it may be, or it is nothing beside a fault.
func mayBe(t *testing.T, what string, v api.Value, fault int) {
	t.Helper()
	if fault == 0 && !value.May(v) || fault != 0 && v != (api.Value{}) {
		t.Errorf("%s: %v, fault %d", what, v, fault)
	}
}

// P1.7: they stay.
func TestTheyStay(t *testing.T) {
	for _, k := range kinds() {
		mayBe(t, "Zero", value.Zero(k), 0)
	}
	for k := range 256 {
		for _, n := range []int{math.MinInt, -dayNanos, -1, 0, 1, 2, 200, dayNanos, math.MaxInt} {
			v, f := value.Int(api.Kind(k), n)
			mayBe(t, "Int", v, f)
		}
	}
	for i := range 64 {
		mayBe(t, "Lreal", value.Lreal(math.Float64frombits(0x7ff0000000000000|1<<i)), 0)
	}
	l := append(all(), wrong()...)
	for _, a := range l {
		for _, op := range ops() {
			v, f := value.Turn(op, a)
			mayBe(t, "Turn", v, f)
			for _, b := range []api.Value{a, value.Zero(a.Kind), num(t, api.KLint, -1), num(t, api.KTime, math.MinInt64)} {
				v, f = value.Reckon(op, a, b)
				mayBe(t, "Reckon", v, f)
			}
		}
		for k := range 256 {
			v, f := value.Convert(api.Kind(k), a)
			mayBe(t, "Convert", v, f)
		}
	}
}

// P1.8: there and back.
func TestThereAndBack(t *testing.T) {
	for _, from := range integers() {
		for _, v := range edges(from) {
			for _, to := range append(integers(), api.KString) {
				there, f := value.Convert(to, v)
				if f != 0 {
					if _, ok := make1(to, bigOf(v)); ok || to == api.KString {
						t.Errorf("%s to %s: %d", show(v), value.Word(to), f)
					}
					continue
				}
				back, f := value.Convert(from, there)
				same(t, show(v)+" by "+value.Word(to), back, f, v, 0)
			}
		}
	}
}

// P1.9: of two values just one of below, same, above.
func TestOrder(t *testing.T) {
	for _, k := range kinds() {
		for _, a := range edges(k) {
			for _, b := range edges(k) {
				if a.Kind == api.KLreal && (a.Bits == nanBits || b.Bits == nanBits) {
					continue
				}
				count := uint64(0)
				for _, op := range []int{api.OpLt, api.OpEq, api.OpGt} {
					v, _ := value.Reckon(op, a, b)
					count += v.Bits
				}
				if count != 1 {
					t.Errorf("%s, %s: %d", show(a), show(b), count)
				}
			}
		}
	}
}

// P1.10: two signs undo one another.
func TestSigns(t *testing.T) {
	turned := 0
	for _, a := range all() {
		once, f := value.Turn(api.OpNeg, a)
		if f != 0 {
			continue
		}
		turned++
		twice, f := value.Turn(api.OpNeg, once)
		same(t, show(a), twice, f, a, 0)
	}
	if turned == 0 {
		t.Error("nothing has an opposite")
	}
}
