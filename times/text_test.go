package times_test

import (
	"math"
	"math/big"
	"math/rand"
	"regexp"
	"strings"
	"testing"

	"relay/api"
	"relay/times"
	"relay/value"
)

var spanForm = regexp.MustCompile(`\A(-?)` +
	`(?:(\d+)(\.\d+)?d)?` + `_?(?:(\d+)(\.\d+)?h)?` + `_?(?:(\d+)(\.\d+)?m)?` + `_?(?:(\d+)(\.\d+)?s)?` +
	`_?(?:(\d+)(\.\d+)?ms)?` + `_?(?:(\d+)(\.\d+)?us)?` + `_?(?:(\d+)(\.\d+)?ns)?\z`)

var looseMark = regexp.MustCompile(`\A-?_|_\z|__`)

// modelSpan is what a text says of KTime, by fractions without bounds.
func modelSpan(s string) (int, bool) {
	m := spanForm.FindStringSubmatch(strings.ToLower(s))
	if m == nil || looseMark.MatchString(s) {
		return 0, false
	}
	nanos := []int64{dayNanos, 3600000000000, 60000000000, 1000000000, 1000000, 1000, 1}
	below := []int64{math.MaxInt64, 24, 60, 60, 1000, 1000, 1000}
	sum, first, dotted := new(big.Rat), true, false
	for i := range nanos {
		whole, behind := m[2+2*i], m[3+2*i]
		if whole == "" {
			continue
		}
		n, _ := new(big.Int).SetString(whole, 10)
		if dotted || !first && n.Cmp(big.NewInt(below[i])) >= 0 {
			return 0, false
		}
		r, _ := new(big.Rat).SetString(whole + behind)
		sum.Add(sum, r.Mul(r, new(big.Rat).SetInt64(nanos[i])))
		first, dotted = false, behind != ""
	}
	if first || !sum.IsInt() || !sum.Num().IsInt64() {
		return 0, false
	}
	n := int(sum.Num().Int64())
	if m[1] == "-" {
		n = -n
	}
	return n, true
}

func checkSpan(t *testing.T, s string, n int, ok bool) {
	t.Helper()
	want := api.Value{}
	if ok {
		want = api.Value{Kind: api.KTime, Bits: uint64(n)}
	}
	if v, is := times.Parse(api.KTime, s); v != want || is != ok {
		t.Errorf("%q: %v %v, want %v %v", s, v, is, want, ok)
	}
}

// P2.2: spans that are.
func TestSpans(t *testing.T) {
	for s, n := range map[string]int{
		"1h30m": 5400000000000, "-1.5s": -1500000000, "1d_2h": 93600000000000, "25h": 90000000000000,
		"0s": 0, "-0s": 0, "0d0h0m0s0ms0us0ns": 0, "1d1h1m1s1ms1us1ns": 90061001001001, "1D1H1M1S1MS1US1NS": 90061001001001, "1d_1H_1m_1S_1ms_1Us_1nS": 90061001001001, "1d1h_1m1s": 90061000000000,
		"1d": dayNanos, "1h": 3600000000000, "1m": 60000000000, "1s": 1000000000, "1ms": 1000000, "1us": 1000, "1ns": 1,
		"23h59m59s999ms999us999ns": dayNanos - 1, "1d23h": 47 * 3600000000000, "1h59m": 119 * 60000000000, "1m59s": 119000000000, "1s999ms": 1999000000, "1ms999us": 1999000, "1us999ns": 1999,
		"60s": 60000000000, "61m": 3660000000000, "1000ms": 1000000000, "100000ns": 100000, "90.5m": 5430000000000, "1h59.5m": 7170000000000, "00001s": 1000000000, "1d023h": 47 * 3600000000000,
		"0.000000001s": 1, "0.001us": 1, "1.0ns": 1, "1.000ns": 1, "0.5us": 500, "1.5d": 129600000000000, "0.0000152587890625d": 1318359375, "0.00001d": 864000000, "0.000000000005d": 432, "1.50000000000000000000000000000000s": 1500000000,
		"9223372036854775807ns": math.MaxInt, "-9223372036854775807ns": -math.MaxInt, "106751d23h47m16s854ms775us807ns": math.MaxInt, "9223372036.854775807s": math.MaxInt, "-106751D_23H_47M_16S_854MS_775US_807NS": -math.MaxInt,
		strings.Repeat("0", 1000) + "1s": 1000000000, "1." + strings.Repeat("0", 1000) + "s": 1000000000,
	} {
		checkSpan(t, s, n, true)
		if got, ok := modelSpan(s); got != n || !ok {
			t.Errorf("the model of %q: %d %v", s, got, ok)
		}
	}
}

// P2.2: texts that say no span.
func TestSpansWrong(t *testing.T) {
	for _, s := range []string{
		"1d25h", "1m1h", "1h_", "1.5h2m", "0.1ns", "5", "",
		"-", "--1s", "+1s", " 1s", "1s ", "1 s", "_1s", "-_1s", "1h__2m", "1_000s", "1_h", "s", ".5s", "1.s", "1..5s", "1.5.5s", "1,5s", "1x", "1hm", "1mss", "1msm", "1min", "T#1s", "1h-2m", "-1h-2m", "1e3s",
		"1d24h", "1h60m", "1m60s", "1s1000ms", "1ms1000us", "1us1000ns", "1h60.5m", "1s1s", "1h1h", "1s1m", "1ns1us", "1ms1s", "1.5h_2m", "1.0h2m", "1.5h_",
		"0.0001us", "0.0000000001s", "1.0000000000001h", "0.00000762939453125d", "0.000000000000005d",
		"9223372036854775808ns", "-9223372036854775808ns", "106751d23h47m16s854ms775us808ns", "106752d", "9223372036.854775808s", "9223372036854775807s", "99999999999999999999ns", strings.Repeat("9", 1000) + "d", "0." + strings.Repeat("3", 1000) + "d",
		"1\u017f", "1\u212a", "\u0661s", "1s\x00", "1h\n2m", "1970-01-01", "00:00:00",
	} {
		checkSpan(t, s, 0, false)
		if _, ok := modelSpan(s); ok {
			t.Errorf("the model of %q", s)
		}
	}
}

// P2.2: texts put together from the pieces of spans, right and wrong.
func TestSpansAny(t *testing.T) {
	pieces := []string{"-", "_", ".", "0", "1", "5", "9", "23", "24", "59", "60", "999", "1000", "106751", "d", "h", "m", "s", "ms", "us", "ns", "D", "H", "M", "S", "Ms", "1d", "2h", "3m", "4s", "5ms", "6us", "7ns", "_8h", "_9m", "_1.5s", ".25", "x"}
	r := rand.New(rand.NewSource(1))
	taken := 0
	for range 300000 {
		s := ""
		for range 1 + r.Intn(6) {
			s += pieces[r.Intn(len(pieces))]
		}
		n, ok := modelSpan(s)
		checkSpan(t, s, n, ok)
		if ok {
			taken++
		}
	}
	if taken < 1000 {
		t.Error("too few that are:", taken)
	}
}

// P2.2: dates, times of day, both.
func TestParseClocks(t *testing.T) {
	for _, x := range []struct {
		k api.Kind
		s string
		n int
	}{
		{api.KDate, "1970-01-01", 0}, {api.KDate, "2000-02-29", 11016 * dayNanos}, {api.KDate, "2199-12-31", 84005 * dayNanos},
		{api.KTod, "00:00:00", 0}, {api.KTod, "23:59:59", dayNanos - 1000000000}, {api.KTod, "15:36:55.36", 56215360000000}, {api.KTod, "23:59:59.999999999", dayNanos - 1}, {api.KTod, "00:00:00.0", 0}, {api.KTod, "00:00:00.000000001", 1}, {api.KTod, "00:00:01.500000000", 1500000000}, {api.KTod, "01:02:03", 3723000000000},
		{api.KDt, "1970-01-01-00:00:00", 0}, {api.KDt, "1984-06-25-15:36:55.36", 5289*dayNanos + 56215360000000}, {api.KDt, "2199-12-31-23:59:59.999999999", allDays*dayNanos - 1},
	} {
		if v, ok := times.Parse(x.k, x.s); v != mustInt(t, x.k, x.n) || !ok {
			t.Errorf("%d %q: %v %v", x.k, x.s, v, ok)
		}
	}
}

// P2.2: texts that say nothing of the kind.
func TestParseClocksWrong(t *testing.T) {
	for k, l := range map[api.Kind][]string{
		api.KDate: {"", "1969-12-31", "2200-01-01", "2100-02-29", "1970-13-01", "1970-00-01", "1970-01-00", "1970-01-32", "1970-1-1", "70-01-01", "01970-01-01", "1970-01-01 ", " 1970-01-01", "1970/01/01", "1970-01-1a", "19 0-01-01", "+970-01-01", "1970-01-01-00:00:00", "1970:01:01", "D#1970-01-01", "1970-01", "0000-00-00", "99999999999999999999"},
		api.KTod:  {"", "24:00:00", "00:60:00", "00:00:60", "0:00:00", "00:00", "00:00:00.", "00:00:00.1234567890", "00:00:00.0000000000", "00:00:00.1a", "00:00:00.-1", "00:00:00.1.1", "00:00:00:1", "-1:00:00", "00-00-00", "00:00:00 ", " 00:00:00", "000:00:00", "00:00:0a", "TOD#00:00:00", ".5", "00:00:.5"},
		api.KDt:   {"", "1970-01-01", "00:00:00", "1970-01-01-", "1970-01-01 00:00:00", "1970-01-01T00:00:00", "1970-01-01:00:00:00", "1970-01-01--00:00:00", "1970-01-0100:00:00", "1969-12-31-23:59:59", "2200-01-01-00:00:00", "1970-01-01-24:00:00", "1970-02-30-00:00:00", "1970-01-01-00:00:00.", "1970-01-01-00:00:00-", "DT#1970-01-01-00:00:00"},
	} {
		for _, s := range l {
			if v, ok := times.Parse(k, s); v != (api.Value{}) || ok {
				t.Errorf("%d %q: %v", k, s, v)
			}
		}
	}
	right := []string{"1s", "1970-01-01", "00:00:00", "1970-01-01-00:00:00", "0", "1", "TRUE", ""}
	for k := range 256 {
		for i, s := range right {
			is := i < 4 && api.Kind(k) == []api.Kind{api.KTime, api.KDate, api.KTod, api.KDt}[i]
			if v, ok := times.Parse(api.Kind(k), s); ok != is || !is && v != (api.Value{}) {
				t.Errorf("%d %q: %v %v", k, s, v, ok)
			}
		}
	}
}

// P2.3: values' literals.
func TestPrint(t *testing.T) {
	for _, x := range []struct {
		k    api.Kind
		n    int
		want string
	}{
		{api.KTime, 0, "T#0S"}, {api.KTime, 90061001002003, "T#1D1H1M1S1MS2US3NS"}, {api.KTime, -1, "T#-1NS"}, {api.KTime, 1500000000, "T#1S500MS"}, {api.KTime, 90000000000000, "T#1D1H"}, {api.KTime, 1000, "T#1US"}, {api.KTime, 999, "T#999NS"}, {api.KTime, -5400000000000, "T#-1H30M"}, {api.KTime, dayNanos - 1, "T#23H59M59S999MS999US999NS"},
		{api.KTime, math.MaxInt, "T#106751D23H47M16S854MS775US807NS"}, {api.KTime, math.MinInt, "T#-106751D23H47M16S854MS775US808NS"},
		{api.KDate, 0, "D#1970-01-01"}, {api.KDate, 84005 * dayNanos, "D#2199-12-31"}, {api.KDate, 11016 * dayNanos, "D#2000-02-29"},
		{api.KTod, 0, "TOD#00:00:00"}, {api.KTod, 56215360000000, "TOD#15:36:55.36"}, {api.KTod, 1, "TOD#00:00:00.000000001"}, {api.KTod, dayNanos - 1, "TOD#23:59:59.999999999"}, {api.KTod, 100000000, "TOD#00:00:00.1"}, {api.KTod, 3723000000000, "TOD#01:02:03"},
		{api.KDt, 0, "DT#1970-01-01-00:00:00"}, {api.KDt, 5289*dayNanos + 56215360000000, "DT#1984-06-25-15:36:55.36"}, {api.KDt, allDays*dayNanos - 1, "DT#2199-12-31-23:59:59.999999999"},
	} {
		if got := times.Print(mustInt(t, x.k, x.n)); got != x.want {
			t.Errorf("%d %d: %q, want %q", x.k, x.n, got, x.want)
		}
	}
	for _, v := range []api.Value{
		{}, {Kind: api.KTime, Text: "x"}, {Kind: api.KDate, Bits: 1}, {Kind: api.KDate, Bits: allDays * dayNanos}, {Kind: api.KTod, Bits: dayNanos}, {Kind: api.KDt, Bits: allDays * dayNanos}, {Kind: api.KDt, Bits: 1 << 63}, {Kind: 255},
		value.Bool(true), value.Lreal(1), mustInt(t, api.KLint, 5), mustInt(t, api.KLword, 5), {Kind: api.KString, Text: "1s"}, {Kind: api.KRef},
	} {
		if got := times.Print(v); got != "" {
			t.Errorf("%v: %q", v, got)
		}
	}
}

// numbers is numbers of a kind, edges and others.
func numbers(k api.Kind) []int {
	l := moments()
	r := rand.New(rand.NewSource(2))
	for range 2000 {
		l = append(l, int(r.Uint64()>>r.Intn(64)), -int(r.Uint64()>>r.Intn(64)), r.Intn(allDays)*dayNanos+r.Intn(dayNanos))
	}
	for i := range 63 {
		l = append(l, 1<<i, 1<<i-1, -(1 << i))
	}
	l = append(l, math.MaxInt, math.MinInt+1)
	for i, n := range l {
		switch k {
		case api.KDate:
			l[i] = int(uint(n) / dayNanos % allDays * dayNanos)
		case api.KTod:
			l[i] = int(uint(n) % dayNanos)
		case api.KDt:
			l[i] = int(uint(n) % (allDays * dayNanos))
		}
	}
	return l
}

// P2.5: what is printed is read as the value, in letters of both cases.
func TestThereAndBack(t *testing.T) {
	for _, k := range []api.Kind{api.KTime, api.KDate, api.KTod, api.KDt} {
		for _, n := range numbers(k) {
			if k == api.KTime && n == math.MinInt {
				continue
			}
			v := mustInt(t, k, n)
			_, s, _ := strings.Cut(times.Print(v), "#")
			for _, s := range []string{s, strings.ToLower(s)} {
				if got, ok := times.Parse(k, s); got != v || !ok {
					t.Fatalf("%d %d: %q, %v %v", k, n, s, got, ok)
				}
			}
		}
	}
	_, least, _ := strings.Cut(times.Print(mustInt(t, api.KTime, math.MinInt)), "#")
	if v, ok := times.Parse(api.KTime, least); v != (api.Value{}) || ok {
		t.Error(least, v)
	}
}

// P2.8: times of day with as many digits behind the dot lie as their texts do.
func TestClocksInOrder(t *testing.T) {
	for _, l := range [][]string{
		{"00:00:00", "00:00:01", "00:00:59", "00:01:00", "00:59:59", "01:00:00", "09:59:59", "10:00:00", "23:59:59"},
		{"00:00:00.00", "00:00:00.01", "00:00:00.10", "00:00:00.99", "00:00:01.00", "23:59:59.98", "23:59:59.99"},
		{"00:00:00.000000000", "00:00:00.000000001", "12:34:56.123456788", "12:34:56.123456789"},
	} {
		for i := 1; i < len(l); i++ {
			a, ok := times.Parse(api.KTod, l[i-1])
			b, fine := times.Parse(api.KTod, l[i])
			if !ok || !fine || l[i-1] >= l[i] || a.Bits >= b.Bits {
				t.Error(l[i-1], l[i], a, b)
			}
		}
	}
}

// P2.9: all that is read may be, and has the kind that was asked for; what is not read is nothing.
func TestReadMayBe(t *testing.T) {
	texts := []string{"1s", "-1s", "9223372036854775807ns", "-106751d", "1970-01-01", "2199-12-31", "00:00:00", "23:59:59.999999999", "1970-01-01-00:00:00", "2199-12-31-23:59:59.999999999", "24:00:00", "2200-01-01", "9999-99-99", "99:99:99", "9999-99-99-99:99:99", "99999999999d", "x"}
	for k := range 256 {
		for _, s := range texts {
			v, ok := times.Parse(api.Kind(k), s)
			if ok && (!value.May(v) || v.Kind != api.Kind(k)) || !ok && v != (api.Value{}) {
				t.Error(k, s, v, ok)
			}
		}
	}
}

// FuzzParse: no text makes it panic; what it takes may be, and is read again from its literal.
func FuzzParse(f *testing.F) {
	for _, s := range []string{"1h30m", "-1.5s", "1d_2h", "1984-06-25", "15:36:55.36", "1984-06-25-15:36:55.36"} {
		f.Add(s)
	}
	f.Fuzz(func(t *testing.T, s string) {
		for _, k := range []api.Kind{api.KTime, api.KDate, api.KTod, api.KDt} {
			v, ok := times.Parse(k, s)
			if k == api.KTime {
				n, is := modelSpan(s)
				if is != ok || is && v.Bits != uint64(n) {
					t.Fatal(s, v, ok)
				}
			}
			if !ok {
				continue
			}
			_, text, _ := strings.Cut(times.Print(v), "#")
			if back, ok := times.Parse(k, text); back != v || !ok || !value.May(v) {
				t.Fatal(s, v, text)
			}
		}
	})
}
