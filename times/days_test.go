package times_test

import (
	"math"
	"testing"
	"time"

	"relay/api"
	"relay/times"
	"relay/value"
)

const (
	dayNanos = 86400000000000
	allDays  = 84006
)

func mustInt(t testing.TB, k api.Kind, n int) api.Value {
	t.Helper()
	v, f := value.Int(k, n)
	if f != 0 {
		t.Fatal(k, n, f)
	}
	return v
}

// P2.1: each date from the first to the last, held against the library's calendar.
func TestDaysAll(t *testing.T) {
	date := time.Date(1970, 1, 1, 0, 0, 0, 0, time.UTC)
	for n := range allDays {
		y, m, d := date.Date()
		days, ok := times.Days(y, int(m), d)
		if days != n || !ok {
			t.Fatal(date, days, ok)
		}
		cy, cm, cd, fine := times.Civil(n)
		if cy != y || cm != int(m) || cd != d || !fine {
			t.Fatal(n, cy, cm, cd, fine)
		}
		if times.Week(n) != int(date.Weekday()) {
			t.Fatal(n, times.Week(n))
		}
		date = date.AddDate(0, 0, 1)
	}
	if date.Year() != 2200 || date.YearDay() != 1 {
		t.Error(date)
	}
}

// P2.1: what is no date.
func TestDaysWrong(t *testing.T) {
	for _, x := range [][3]int{
		{1969, 12, 31}, {2200, 1, 1}, {1970, 0, 1}, {1970, 13, 1}, {1970, 1, 0}, {1970, 1, 32}, {1970, 4, 31}, {1970, 6, 31}, {1970, 9, 31}, {1970, 11, 31}, {1970, 2, 29}, {2000, 2, 30}, {2100, 2, 29}, {2024, 2, 30}, {2023, 2, 29},
		{0, 0, 0}, {-1970, 1, 1}, {1970, -1, 1}, {1970, 1, -1}, {math.MaxInt, 1, 1}, {math.MinInt, 1, 1}, {1970, math.MaxInt, 1}, {1970, math.MinInt, 1}, {1970, 1, math.MaxInt}, {1970, 1, math.MinInt},
	} {
		if n, ok := times.Days(x[0], x[1], x[2]); n != 0 || ok {
			t.Error(x, n, ok)
		}
	}
	for _, n := range []int{-1, allDays, allDays + 1, math.MaxInt, math.MinInt} {
		if y, m, d, ok := times.Civil(n); y != 0 || m != 0 || d != 0 || ok {
			t.Error(n, y, m, d, ok)
		}
	}
}

// P2.1: the chapter's examples, and leap years.
func TestDaysExamples(t *testing.T) {
	for _, x := range []struct{ y, m, d, n int }{
		{1970, 1, 1, 0}, {1970, 12, 31, 364}, {1972, 2, 29, 789}, {2000, 2, 29, 11016}, {2000, 3, 1, 11017}, {2100, 3, 1, 47541}, {2100, 2, 28, 47540}, {2199, 12, 31, 84005},
	} {
		if n, ok := times.Days(x.y, x.m, x.d); n != x.n || !ok {
			t.Error(x, n, ok)
		}
	}
	if y, m, d, ok := times.Civil(84005); y != 2199 || m != 12 || d != 31 || !ok {
		t.Error(y, m, d, ok)
	}
}

// P2.1, P2.6: the week goes on by one, on both sides of the first day and at the ends of numbers.
func TestWeek(t *testing.T) {
	for n, want := range map[int]int{0: 4, 1: 5, 2: 6, 3: 0, -1: 3, -4: 0, -5: 6, -7: 4, 7: 4, 84005: 2} {
		if got := times.Week(n); got != want {
			t.Error(n, got)
		}
	}
	for _, from := range []int{math.MinInt, -100000, -20, 0, 84000, math.MaxInt - 30} {
		for n := from; n < from+30; n++ {
			w := times.Week(n)
			if w < 0 || w > 6 || times.Week(n+1) != (w+1)%7 {
				t.Error(n, w, times.Week(n+1))
			}
		}
	}
	// 2^63 leaves 1 when 7 divides it.
	if times.Week(math.MinInt) != 3 || times.Week(math.MaxInt) != 4 {
		t.Error(times.Week(math.MinInt), times.Week(math.MaxInt))
	}
}

// P2.8: the later date has more days.
func TestDatesInOrder(t *testing.T) {
	last := -1
	for y := 1970; y <= 2199; y++ {
		for m := 1; m <= 12; m++ {
			for d := 1; d <= 31; d++ {
				n, ok := times.Days(y, m, d)
				if ok && n != last+1 {
					t.Fatal(y, m, d, n)
				}
				if ok {
					last = n
				}
			}
		}
	}
	if last != allDays-1 {
		t.Error(last)
	}
}

// moments is DT values at the edges of days and of all time.
func moments() []int {
	var l []int
	for _, d := range []int{0, 1, 364, 365, 789, 11016, 11017, 47540, 47541, 84004, 84005} {
		for _, n := range []int{0, 1, 999999999, 1000000000, 56215360000000, dayNanos - 1000000000, dayNanos - 1} {
			l = append(l, d*dayNanos+n)
		}
	}
	return l
}

// P2.4, P2.7: together and apart.
func TestJoinPart(t *testing.T) {
	for _, n := range moments() {
		v := mustInt(t, api.KDt, n)
		d, ok := times.Part(api.KDate, v)
		c, fine := times.Part(api.KTod, v)
		if d != mustInt(t, api.KDate, n/dayNanos*dayNanos) || c != mustInt(t, api.KTod, n%dayNanos) || !ok || !fine {
			t.Error(n, d, c, ok, fine)
		}
		if both, ok := times.Join(d, c); both != v || !ok {
			t.Error(n, both, ok)
		}
	}
	for _, d := range []int{0, 1, 84005} {
		for _, n := range []int{0, 1, dayNanos - 1} {
			date, clock := mustInt(t, api.KDate, d*dayNanos), mustInt(t, api.KTod, n)
			v, ok := times.Join(date, clock)
			if v != mustInt(t, api.KDt, d*dayNanos+n) || !ok {
				t.Error(d, n, v, ok)
			}
			one, _ := times.Part(api.KDate, v)
			other, _ := times.Part(api.KTod, v)
			if one != date || other != clock {
				t.Error(d, n, one, other)
			}
		}
	}
}

// P2.4: other kinds, and values that may not be.
func TestJoinPartWrong(t *testing.T) {
	date, clock, both := mustInt(t, api.KDate, dayNanos), mustInt(t, api.KTod, 1), mustInt(t, api.KDt, dayNanos+1)
	zero := api.Value{}
	for _, x := range [][2]api.Value{
		{clock, date}, {date, date}, {clock, clock}, {both, clock}, {date, both}, {date, mustInt(t, api.KTime, 1)}, {date, mustInt(t, api.KLint, 1)}, {zero, zero}, {date, zero}, {zero, clock},
		{{Kind: api.KDate, Bits: 1}, clock}, {{Kind: api.KDate, Bits: allDays * dayNanos}, clock}, {date, {Kind: api.KTod, Bits: dayNanos}}, {date, {Kind: api.KTod, Text: "x"}}, {{Kind: api.KDate, Text: "x"}, clock},
	} {
		if v, ok := times.Join(x[0], x[1]); v != zero || ok {
			t.Error(x, v, ok)
		}
	}
	for k := range 256 {
		if v, ok := times.Part(api.Kind(k), both); ok != (k == int(api.KDate) || k == int(api.KTod)) || !ok && v != zero {
			t.Error(k, v, ok)
		}
	}
	for _, v := range []api.Value{zero, date, clock, mustInt(t, api.KTime, 5), mustInt(t, api.KLint, 5), {Kind: api.KDt, Bits: allDays * dayNanos}, {Kind: api.KDt, Text: "x"}} {
		for _, k := range []api.Kind{api.KDate, api.KTod, api.KDt} {
			if got, ok := times.Part(k, v); got != zero || ok {
				t.Error(k, v, got, ok)
			}
		}
	}
}
