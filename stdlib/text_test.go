package stdlib_test

import (
	"math"
	"slices"
	"strings"
	"testing"

	"relay/api"
	"relay/stdlib"
)

// texts is all texts of up to 4 bytes of a and b, and some long ones.
func texts() []string {
	l := []string{""}
	for from := 0; len(l[from]) < 4; from++ {
		l = append(l, l[from]+"a", l[from]+"b")
	}
	return append(l, "\x00\xff", "äö", strings.Repeat("x", 253), strings.Repeat("ab", 127))
}

// places is numbers of all integer kinds at and around the edges of a text of a length.
func places(size int) []api.Value {
	var l []api.Value
	for n := -2; n < 4; n++ {
		l = append(l, num(api.KInt, int64(n)), num(api.KLint, int64(size+n)))
	}
	for _, n := range []int64{math.MinInt64, math.MinInt64 + 1, math.MaxInt64, math.MaxInt64 - 1, math.MaxInt64 - 254} {
		l = append(l, num(api.KLint, n))
	}
	for _, n := range []int64{0, 1, math.MaxInt64, math.MinInt64, math.MinInt64 + 1, -255, -2, -1} {
		l = append(l, num(api.KUlint, n))
	}
	return append(l, num(api.KSint, -128), num(api.KUsint, 255), num(api.KUint, 65535), num(api.KDint, math.MaxInt32), num(api.KUdint, math.MaxUint32))
}

// P9.2: all functions of texts, at all places.
func TestTexts(t *testing.T) {
	for _, s := range texts() {
		checkCall(t, "LEN", vs(text(s)))
		for _, l := range places(len(s)) {
			checkCall(t, "LEFT", vs(text(s), l))
			checkCall(t, "RIGHT", vs(text(s), l))
			for _, p := range places(len(s)) {
				checkCall(t, "MID", vs(text(s), l, p))
				checkCall(t, "DELETE", vs(text(s), l, p))
			}
		}
	}
	for _, s := range texts() {
		for _, with := range texts() {
			checkCall(t, "FIND", vs(text(s), text(with)))
			checkCall(t, "CONCAT", vs(text(s), text(with)))
			for _, p := range places(len(s)) {
				checkCall(t, "INSERT", vs(text(s), text(with), p))
			}
		}
		for _, with := range []string{"", "X", "XY", strings.Repeat("z", 250), strings.Repeat("z", 254)} {
			for _, l := range places(len(s)) {
				for _, p := range places(len(s)) {
					checkCall(t, "REPLACE", vs(text(s), text(with), l, p))
				}
			}
		}
	}
}

// By hand, what the table's words say of texts.
func TestTextsByHand(t *testing.T) {
	full, none := text(strings.Repeat("ab", 127)), text("")
	huge, most := num(api.KUlint, -1), num(api.KLint, math.MaxInt64)
	fault := func(name string, why int, args ...api.Value) given { return given{name, args, api.Value{}, why} }
	gives := func(name string, s string, args ...api.Value) given { return given{name, args, text(s), 0} }
	checkGiven(t, []given{
		{"LEN", vs(none), i(0), 0}, {"LEN", vs(full), i(254), 0}, {"LEN", vs(text("ä")), i(2), 0},
		gives("LEFT", "", text("abc"), i(0)), gives("LEFT", "a", text("abc"), i(1)), gives("LEFT", "abc", text("abc"), i(3)), gives("LEFT", "abc", text("abc"), i(4)),
		gives("LEFT", "abc", text("abc"), huge), gives("LEFT", "", none, most), fault("LEFT", api.FaultRange, text("abc"), i(-1)),
		gives("RIGHT", "", text("abc"), i(0)), gives("RIGHT", "c", text("abc"), i(1)), gives("RIGHT", "abc", text("abc"), i(3)), gives("RIGHT", "abc", text("abc"), i(4)),
		gives("RIGHT", "abc", text("abc"), huge), fault("RIGHT", api.FaultRange, none, i(-1)),
		gives("MID", "", text("abc"), i(0), i(1)), gives("MID", "a", text("abc"), i(1), i(1)), gives("MID", "bc", text("abc"), i(9), i(2)), gives("MID", "c", text("abc"), huge, i(3)),
		gives("MID", "", text("abc"), i(1), i(4)), gives("MID", "", text("abc"), most, most), gives("MID", "", text("abc"), huge, huge), gives("MID", "", none, i(0), i(1)),
		fault("MID", api.FaultRange, text("abc"), i(1), i(0)), fault("MID", api.FaultRange, text("abc"), i(-1), i(1)), fault("MID", api.FaultRange, text("abc"), i(1), i(-5)),
		gives("CONCAT", "abc", text("a"), text("b"), text("c")), gives("CONCAT", full.Text, full, none), gives("CONCAT", full.Text, none, full), gives("CONCAT", "", none, none),
		fault("CONCAT", api.FaultText, full, text("x")), fault("CONCAT", api.FaultText, full, none, none, text("x")),
		gives("CONCAT", strings.Repeat("x", 16), slices.Repeat(vs(text("x")), 16)...), fault("CONCAT", api.FaultText, slices.Repeat(vs(full), 16)...),
		fault("CONCAT", api.FaultKind, slices.Repeat(vs(text("x")), 17)...), fault("CONCAT", api.FaultKind, text("x")), fault("CONCAT", api.FaultKind),
		gives("INSERT", "Xabc", text("abc"), text("X"), i(0)), gives("INSERT", "aXbc", text("abc"), text("X"), i(1)), gives("INSERT", "abcX", text("abc"), text("X"), i(3)),
		gives("INSERT", "X", none, text("X"), i(0)), gives("INSERT", full.Text, full, none, i(254)), fault("INSERT", api.FaultRange, text("abc"), text("X"), i(4)),
		fault("INSERT", api.FaultRange, text("abc"), text("X"), i(-1)), fault("INSERT", api.FaultRange, text("abc"), text("X"), huge), fault("INSERT", api.FaultText, full, text("X"), i(0)),
		gives("DELETE", "ad", text("abcd"), i(2), i(2)), gives("DELETE", "abcd", text("abcd"), i(0), i(2)), gives("DELETE", "abc", text("abcd"), i(9), i(4)), gives("DELETE", "abcd", text("abcd"), i(9), i(5)),
		gives("DELETE", "", full, i(254), i(1)), gives("DELETE", "a", text("abcd"), huge, i(2)), gives("DELETE", "abcd", text("abcd"), i(1), huge), fault("DELETE", api.FaultRange, none, i(0), i(0)),
		fault("DELETE", api.FaultRange, none, i(-1), i(1)),
		gives("REPLACE", "Xcd", text("abcd"), text("X"), i(2), i(1)), gives("REPLACE", "abcX", text("abcd"), text("X"), i(2), i(4)), gives("REPLACE", "abcdX", text("abcd"), text("X"), i(2), i(5)),
		fault("REPLACE", api.FaultRange, text("abcd"), text("X"), i(2), i(6)), fault("REPLACE", api.FaultRange, text("abcd"), text("X"), i(2), huge), gives("REPLACE", "aXbcd", text("abcd"), text("X"), i(0), i(2)),
		gives("REPLACE", "X", none, text("X"), i(0), i(1)), fault("REPLACE", api.FaultRange, none, text("X"), i(0), i(2)), gives("REPLACE", "X", full, text("X"), huge, i(1)),
		gives("REPLACE", full.Text, full, full, i(254), i(1)), fault("REPLACE", api.FaultText, full, full, i(253), i(1)),
		{"FIND", vs(text("abcabc"), text("c")), i(3), 0}, {"FIND", vs(text("abc"), text("d")), i(0), 0}, {"FIND", vs(text("abc"), none), i(1), 0}, {"FIND", vs(none, none), i(1), 0},
		{"FIND", vs(none, text("a")), i(0), 0}, {"FIND", vs(full, text("ba")), i(2), 0}, {"FIND", vs(full, full), i(1), 0}, {"FIND", vs(text("ab"), text("abc")), i(0), 0},
		{"FIND", vs(text(strings.Repeat("a", 253)+"b"), text("b")), i(254), 0},
	})
}

// do is what a function gives; it must.
func do(t *testing.T, name string, args ...api.Value) api.Value {
	t.Helper()
	fn, k, e := stdlib.Find(name, kindsOf(args))
	v, f := stdlib.Call(fn, args)
	if e != api.OK || f != 0 || v.Kind != k {
		t.Fatal(show(name, args), e, v, f)
	}
	return v
}

// P9.5: two pieces are the whole; what was put in is taken out.
func TestTextsThereAndBack(t *testing.T) {
	for _, s := range texts() {
		size := do(t, "LEN", text(s))
		for n := range len(s) + 3 {
			rest := do(t, "SUB", size, do(t, "MIN", size, i(int64(n))))
			if v := do(t, "CONCAT", do(t, "LEFT", text(s), i(int64(n))), do(t, "RIGHT", text(s), rest)); v != text(s) {
				t.Fatal(s, n, v)
			}
		}
		for _, with := range texts() {
			if len(s)+len(with) > api.MaxText {
				continue
			}
			for p := range len(s) + 1 {
				put := do(t, "INSERT", text(s), text(with), i(int64(p)))
				if v := do(t, "DELETE", put, do(t, "LEN", text(with)), i(int64(p+1))); v != text(s) {
					t.Fatal(s, with, p, v)
				}
			}
		}
	}
}

// P9.6: turned there and back, by whatever number.
func TestTurnedRound(t *testing.T) {
	for _, k := range rows() {
		for _, v := range edges(k) {
			for _, n := range integers() {
				for _, by := range edges(n) {
					if bigOf(by).Sign() < 0 {
						continue
					}
					if back := do(t, "ROR", do(t, "ROL", v, by), by); back != v {
						t.Fatal(show("", vs(v, by)), back)
					}
				}
			}
		}
	}
}

// What is handed in stays, its spare room too; values are no memory of anybody's.
func TestCallMemory(t *testing.T) {
	for _, name := range called() {
		for n := range 18 {
			for _, k := range kinds() {
				room := slices.Repeat(vs(edges(k)[len(edges(k))-1]), 20)
				if n > 2 && k == api.KString {
					room[2], room[1] = i(1), i(1)
				}
				ahead := slices.Clone(room)
				one, f := stdlib.Call(number(name), room[:n])
				if !slices.Equal(room, ahead) {
					t.Fatal(name, n, room)
				}
				if two, g := stdlib.Call(number(name), room[:n:n]); two != one || f != g {
					t.Fatal(name, n, one, two)
				}
			}
		}
	}
}
