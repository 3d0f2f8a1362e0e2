package lex_test

import (
	"errors"
	"math/rand"
	"strings"
	"testing"

	"relay/api"
	"relay/lex"
	"relay/value"
)

// lit is a literal's token, places aside.
func lit(k api.Kind, bits uint64) api.Token {
	return api.Token{Kind: api.TokLit, Value: api.Value{Kind: k, Bits: bits}}
}

func text(s string) api.Token {
	return api.Token{Kind: api.TokLit, Value: api.Value{Kind: api.KString, Text: s}}
}

func float(f float64) api.Token { return api.Token{Kind: api.TokLit, Value: value.Lreal(f)} }
func minus(n int) uint64        { return uint64(-n) }
func mark(s string) api.Token   { return api.Token{Kind: api.TokMark, Text: s} }
func name(s string) api.Token   { return api.Token{Kind: api.TokName, Text: s} }
func word(s string) api.Token   { return api.Token{Kind: api.TokWord, Text: s} }
func addr(s string) api.Token   { return api.Token{Kind: api.TokAddr, Text: s} }
func pragma(s string) api.Token { return api.Token{Kind: api.TokPragma, Text: s} }

// placeless is words without their places.
func placeless(l []api.Token) []api.Token {
	var out []api.Token
	for _, t := range l {
		t.At, t.End = 0, 0
		out = append(out, t)
	}
	return out
}

// P3.1: what each word is.
func TestWords(t *testing.T) {
	for src, want := range map[string][]api.Token{
		"":                        nil,
		" \t\r\n":                 nil,
		"(* a *)// b":             nil,
		"a := INT#-5 + 16#FF;":    {name("A"), mark(":="), lit(api.KInt, minus(5)), mark("+"), lit(0, 255), mark(";")},
		"1..4":                    {lit(0, 1), mark(".."), lit(0, 4)},
		"1.5e3":                   {float(1500)},
		"T#1s":                    {lit(api.KTime, 1000000000)},
		"{ Bound   3 }":           {pragma("BOUND 3")},
		"1.":                      {lit(0, 1), mark(".")},
		"1.e":                     {lit(0, 1), mark("."), name("E")},
		"'$41$''":                 {text("A'")},
		"true False TRUE":         {lit(api.KBool, 1), lit(api.KBool, 0), lit(api.KBool, 1)},
		"truex TRUE_ T1":          {name("TRUEX"), name("TRUE_"), name("T1")},
		"if End_If int string":    {word("IF"), word("END_IF"), word("INT"), word("STRING")},
		"T D TIME_OF_DAY Time":    {name("T"), name("D"), name("TIME_OF_DAY"), word("TIME")},
		"DATE_AND_TIME TOD DT":    {name("DATE_AND_TIME"), word("TOD"), word("DT")},
		"bool#1 BOOL#0 Bool#tRue": {lit(api.KBool, 1), lit(api.KBool, 0), lit(api.KBool, 1)},
		"BOOL#FALSE BOOL#-0":      {lit(api.KBool, 0), lit(api.KBool, 0)},
		"BOOL#2#1 BOOL#001":       {lit(api.KBool, 1), lit(api.KBool, 1)},
		"SINT#-128 SINT#127":      {lit(api.KSint, minus(128)), lit(api.KSint, 127)},
		"USINT#-0 USINT#2_5_5":    {lit(api.KUsint, 0), lit(api.KUsint, 255)},
		"int#-16#8000 INT#2#11":   {lit(api.KInt, minus(32768)), lit(api.KInt, 3)},
		"LINT#-9223372036854775808 LINT#9223372036854775807":   {lit(api.KLint, 1<<63), lit(api.KLint, 1<<63-1)},
		"ULINT#18446744073709551615 LWORD#16#FFFFffffFFFFffff": {lit(api.KUlint, 1<<64-1), lit(api.KLword, 1<<64-1)},
		"18446744073709551615 000":                             {lit(0, 1<<64-1), lit(0, 0)},
		"2#1_0 8#17 16#a_F 1_000 0_1":                          {lit(0, 2), lit(0, 15), lit(0, 175), lit(0, 1000), lit(0, 1)},
		"LREAL#5 LREAL#-0 LREAL#-0.0 LREAL#0":                  {float(5), lit(api.KLreal, 1<<63), lit(api.KLreal, 1<<63), float(0)},
		"LREAL#9007199254740992 LREAL#16#20000000000000":       {float(1 << 53), float(1 << 53)},
		"LREAL#-1.5E-1":                              {float(-0.15)},
		"0.1 1.0E+2 1_0.2_5 1.5e1_0 0.0":             {float(0.1), float(100), float(10.25), float(1.5e10), float(0)},
		"123456789012345.0E1 12345678901234.5":       nil,
		"12345678901234.5 0.00000000000001":          {float(12345678901234.5), float(1e-14)},
		"1.0E23 1.0e-21 999999999999999.0":           nil,
		"1.0E23 1.0e-21":                             {float(1e23), float(1e-21)},
		"1.00e0024 0.5e-0":                           {float(1e24), float(0.5)},
		"1.5.6":                                      {float(1.5), mark("."), lit(0, 6)},
		"2#1.5":                                      {lit(0, 1), mark("."), lit(0, 5)},
		"-5 - 1.5":                                   {mark("-"), lit(0, 5), mark("-"), float(1.5)},
		"t#-1.5s TIME#1d_2h d#1970-01-02":            {lit(api.KTime, minus(1500000000)), lit(api.KTime, 93600000000000), lit(api.KDate, 86400000000000)},
		"DATE#1970-01-01 tod#00:00:00.5":             {lit(api.KDate, 0), lit(api.KTod, 500000000)},
		"TIME_OF_DAY#00:00:01 DT#1970-01-01-00:00:1": nil,
		"TIME_OF_DAY#00:00:01":                       {lit(api.KTod, 1000000000)},
		"DT#1970-01-01-00:00:01":                     {lit(api.KDt, 1000000000)},
		"date_and_time#1970-01-02-00:00:00":          {lit(api.KDt, 86400000000000)},
		"STRING#'a b' string#''":                     {text("a b"), text("")},
		"'' '$$' '$l$N$p$R$t$L$n$P$r$T'":             {text(""), text("$"), text("\n\n\f\r\t\n\n\f\r\t")},
		"'$00$fF$Fe' '\x7f\x80\xff\"'":               {text("\x00\xff\xfe"), text("\x7f\x80\xff\"")},
		"'$'a$$b$Lc$41d'":                            {text("'a$b\ncAd")},
		"'a'b'c'":                                    {text("a"), name("B"), text("c")},
		"'(* // {'":                                  {text("(* // {")},
		"%ix0.7 %QB9999 %mw10 %ID0 %ql1":             {addr("%IX0.7"), addr("%QB9999"), addr("%MW10"), addr("%ID0"), addr("%QL1")},
		"%IB1.5":                                     {addr("%IB1"), mark("."), lit(0, 5)},
		"%MX0.0.1":                                   {addr("%MX0.0"), mark("."), lit(0, 1)},
		"{} {\n\t} {a\r\n\tb}":                       {pragma(""), pragma(""), pragma("A B")},
		"{(* ' // {}":                                {pragma("(* ' // {")},
		"{\u0120a\u0109b}":                           {pragma("\u0120A\u0109B")},
		"{\xe9\xc3\xa9z}":                            {pragma("\xe9\xc3\xa9Z")},
		"a(*b*)c (**) d//e\nf":                       {name("A"), name("C"), name("D"), name("F")},
		"(*)*) (***) (* (* *)":                       nil,
		"x // (* '":                                  {name("X")},
		":= => <> <= >= .. = < > + - * / ( ) [ ]":    {mark(":="), mark("=>"), mark("<>"), mark("<="), mark(">="), mark(".."), mark("="), mark("<"), mark(">"), mark("+"), mark("-"), mark("*"), mark("/"), mark("("), mark(")"), mark("["), mark("]")},
		", ; : . & | !":                              {mark(","), mark(";"), mark(":"), mark("."), mark("&"), mark("|"), mark("!")},
		"...:==>=<>==*)":                             {mark(".."), mark("."), mark(":="), mark("=>"), mark("="), mark("<>"), mark("="), mark("="), mark("*"), mark(")")},
		"a__b_ Z9_":                                  {name("A__B_"), name("Z9_")},
	} {
		got, err := lex.Scan(src)
		if want == nil {
			againstModel(t, src)
		} else if err != nil || !sameTokens(placeless(got), want) {
			t.Errorf("%q: %v %v", src, got, err)
		}
	}
}

// P3.1: each reserved word, and all others are names.
func TestReserved(t *testing.T) {
	all := strings.Fields(reservedWords + " " + strings.ReplaceAll(kindWords, "|", " "))
	if len(all) != 63+19 {
		t.Fatal(len(all))
	}
	for _, w := range all {
		for _, s := range []string{w, strings.ToLower(w)} {
			if got, err := lex.Scan(s); err != nil || !sameTokens(got, []api.Token{{Kind: api.TokWord, End: len(w), Text: w}}) {
				t.Error(s, got, err)
			}
		}
		for _, s := range []string{w + "_", w + "1", "Y" + w} {
			if got, err := lex.Scan(s); err != nil || !sameTokens(placeless(got), []api.Token{name(s)}) {
				t.Error(s, got, err)
			}
		}
	}
	for _, w := range []string{"INTERVAL", "PRIORITY", "SINGLE", "LABEL", "REF", "LTIME", "REAL", "ABS", "END"} {
		if got, err := lex.Scan(w); err != nil || !sameTokens(placeless(got), []api.Token{name(w)}) {
			t.Error(w, got, err)
		}
	}
}

// P3.1: places.
func TestPlaces(t *testing.T) {
	got, err := lex.Scan("  ab:=(* x *)STRING#'q';//\n%IX0.1{ z }")
	want := [][2]int{{2, 4}, {4, 6}, {13, 23}, {23, 24}, {27, 33}, {33, 38}}
	if err != nil || len(got) != len(want) {
		t.Fatal(got, err)
	}
	for i, w := range want {
		if got[i].At != w[0] || got[i].End != w[1] {
			t.Error(got[i], w)
		}
	}
}

// fault cuts the mark ¦ out of a text: there the fault must be told.
func fault(t *testing.T, marked string, why api.Errno) {
	t.Helper()
	ahead, behind, ok := strings.Cut(marked, "¦")
	if !ok {
		t.Fatal(marked)
	}
	got, err := lex.Scan(ahead + behind)
	var f api.Fault
	if !errors.As(err, &f) || f.At != len(ahead) || f.Why != why || !errors.Is(err, why) || len(got) != 0 {
		t.Errorf("%.200q: %v %v", marked, got, err)
	}
	againstModel(t, ahead+behind)
}

// P3.1: literals and addresses that can't be.
func TestNumberFaults(t *testing.T) {
	for _, s := range []string{
		"INT#40000", "INT#-32769", "SINT#128", "USINT#-1", "USINT#256", "BYTE#-1", "BYTE#256", "WORD#65536", "UDINT#4294967296", "LINT#9223372036854775808", "LINT#-9223372036854775809", "ULINT#18446744073709551616", "ULINT#-1", "DINT#18446744073709551615", "LINT#18446744073709551615",
		"BOOL#2", "BOOL#-1", "BOOL#TRUEX", "BOOL#-TRUE", "BOOL#T", "BOOL#", "BOOL#1.0", "BOOL#TRUE_", "BOOL#true1",
		"INT#", "INT#a", "INT#- 5", "INT# 5", "INT#+5", "INT#--5", "INT#1.5", "INT#1.5e1", "INT#'a'", "INT#TRUE", "INT#5a", "INT#5_", "INT#16#", "INT#INT#5", "INT#_5",
		"LREAL#9007199254740993", "LREAL#-9007199254740993", "LREAL#", "LREAL#a", "LREAL#1e5", "LREAL#'1'", "LREAL#.5",
		"STRING#", "STRING#a", "STRING#5", "STRING# 'a'", "STRING#\"a\"", "STRING#'$q'", "STRING#'\n'",
		"T#", "T#5", "T#1s..", "T#1s-T", "T#1h_", "TIME#1m1h", "D#1970-13-01", "DATE#x", "TOD#24:00:00", "DT#1970-01-01", "T#'1s'", "T#1s_x", "D#1970-01-01-", "T# 1s", "T#+1s", "TIME_OF_DAY#", "DATE_AND_TIME#00:00:00",
		"12a", "1_", "1__2", "1_a", "0x5", "1e5", "1.5e", "1.5e+", "1.5e-x", "1.5ex", "1.5_", "1.5a", "1.5__5", "1_.5", "1.5e3_", "1.5e3a", "1.5e1a", "1.5e0F", "1.5e_3",
		"2#", "2#2", "2#12", "2#1_2", "2#_1", "2#1_", "8#8", "8#78", "16#", "16#G", "16#FG", "16#F_", "16#F__F", "16#-1", "2# 1", "16#_F",
		"18446744073709551616", "99999999999999999999999999", "16#10000000000000000", "2#1" + strings.Repeat("0", 64), "8#2" + strings.Repeat("0", 21),
		"1.234567890123456", "1234567890123456.0", "0000000000000001.0", "0.0000000000000001", "1.0e24", "1.0e-22", "1.0e99999999999999999999", "1.0e-99999999999999999999", "1.00e25", "1.0e18446744073709551616", "1.0e18446744073709551600",
		"'$4'", "'$4g'", "'$q'", "'\n'", "'\x00'", "'\x1f'", "'\t'", "'$ '", "'$\n'", "'$g0'", "'$4$4'",
		"'" + strings.Repeat("a", 255) + "'", "'" + strings.Repeat("$41", 255) + "'", "STRING#'" + strings.Repeat("a", 255) + "'",
		"%", "%I", "%IX", "%IX0", "%IX0.", "%IX0.8", "%IX0.77", "%IX00.0", "%IX12345.0", "%IB", "%IB01", "%IB00", "%IB12345", "%IB1a", "%IB1_", "%IB-1", "%AB1", "%I1", "%IR0", "%ix0.1x", "%IX0.1_", "% IX0.0", "%IX 0.0", "%IX.0", "%%IB0", "%XB0", "%IR0.0", "%IA0", "%I00.0",
	} {
		fault(t, "¦"+s, api.ErrNumber)
		fault(t, "a ¦"+s, api.ErrNumber)
		fault(t, ":=(**)¦"+s+" # '", api.ErrNumber)
	}
}

// P3.1: bytes that begin nothing, names that are too long, what does not end.
func TestOtherFaults(t *testing.T) {
	for c := range 256 {
		s := string([]byte{byte(c)})
		isFine := strings.Contains("abcdefghijklmnopqrstuvwxyzABCDEFGHIJKLMNOPQRSTUVWXYZ0123456789 \t\n\r=<>+-*/()[],;:.&|!", s)
		got, err := lex.Scan("a " + s)
		switch {
		case s == "'" || s == "{":
			fault(t, "a ¦"+s, api.ErrOpen)
		case s == "%":
			fault(t, "a ¦"+s, api.ErrNumber)
		case !isFine:
			fault(t, "a ¦"+s, api.ErrByte)
			fault(t, "¦"+s, api.ErrByte)
		case err != nil || len(got) > 2:
			t.Error(c, got, err)
		}
	}
	for marked, why := range map[string]api.Errno{
		"¦#":              api.ErrByte,
		"FOO¦#5":          api.ErrByte,
		"INT1¦#5":         api.ErrByte,
		"INT ¦#5":         api.ErrByte,
		"10¦#5":           api.ErrByte,
		"016¦#FF":         api.ErrByte,
		"1_6¦#FF":         api.ErrByte,
		"16 ¦#FF":         api.ErrByte,
		"1.¦_5":           api.ErrByte,
		"1.5¦#":           api.ErrByte,
		"¦_a":             api.ErrByte,
		"¦__INT#5":        api.ErrByte,
		"a ¦} b":          api.ErrByte,
		"¦\x00":           api.ErrByte,
		"a¦\xc3\xa9":      api.ErrByte,
		"a¦\vb":           api.ErrByte,
		"¦(* x":           api.ErrOpen,
		"a ¦(*":           api.ErrOpen,
		"a¦(*)":           api.ErrOpen,
		"(**) ¦(* (":      api.ErrOpen,
		"a ¦'b":           api.ErrOpen,
		"¦'":              api.ErrOpen,
		"¦'$'":            api.ErrOpen,
		"¦'$":             api.ErrOpen,
		"¦'a$$$'":         api.ErrOpen,
		"¦'\n":            api.ErrOpen,
		"¦'$q":            api.ErrOpen,
		"STRING#¦'a":      api.ErrOpen,
		"b; string#¦'$'":  api.ErrOpen,
		"¦{":              api.ErrOpen,
		"a {} ¦{ b (* *)": api.ErrOpen,
		"¦{ '":            api.ErrOpen,
		"¦'a # 12a":       api.ErrOpen,
		"¦12a # 'a":       api.ErrNumber,
		"¦# 12a 'a":       api.ErrByte,
	} {
		fault(t, marked, why)
	}
	long := strings.Repeat("a", api.MaxName)
	if got, err := lex.Scan(long); err != nil || !sameTokens(got, []api.Token{{Kind: api.TokName, End: api.MaxName, Text: strings.ToUpper(long)}}) {
		t.Error(got, err)
	}
	fault(t, "¦"+long+"b", api.ErrName)
	fault(t, "b:=¦"+long+"_;", api.ErrName)
	fault(t, "¦"+long+"9#5", api.ErrName)
	fault(t, "¦"+strings.Repeat("END_IF", 10), api.ErrName)
	fault(t, long+"¦#5", api.ErrByte)
}

// P3.1: texts as long as may be.
func TestLongTexts(t *testing.T) {
	for _, inner := range []string{strings.Repeat("a", api.MaxText), strings.Repeat("$41", api.MaxText), strings.Repeat("$$", api.MaxText)} {
		for _, ahead := range []string{"", "STRING#"} {
			got, err := lex.Scan(ahead + "'" + inner + "'")
			if err != nil || len(got) != 1 || len(got[0].Value.Text) != api.MaxText {
				t.Error(got, err)
			}
		}
	}
}

// P3.1: as many bytes and words as may be, and one more.
func TestLimits(t *testing.T) {
	for _, c := range []string{" ", "\n", "{", "\xff", "'"} {
		fault(t, "¦"+strings.Repeat(c, api.MaxSource+1), api.ErrLong)
	}
	if got, err := lex.Scan(strings.Repeat(" ", api.MaxSource)); err != nil || len(got) != 0 {
		t.Error(len(got), err)
	}
	if got, err := lex.Scan("{" + strings.Repeat("a", api.MaxSource-2) + "}"); err != nil || len(got) != 1 || len(got[0].Text) != api.MaxSource-2 {
		t.Error(len(got), err)
	}
	full := strings.Repeat("a;", api.MaxTokens/2)
	for _, behind := range []string{"", " ", "(* x *)", "// y", "\n"} {
		if got, err := lex.Scan(full + behind); err != nil || len(got) != api.MaxTokens {
			t.Error(behind, len(got), err)
		}
	}
	for _, last := range []string{"a", ";", "12a", "#", "\x00", "%", "'a'", "{b}", "INT#99999", "'\n'", strings.Repeat("a", 25), "STRING#'x'", "STRING#'x"} {
		fault(t, full+" ¦"+last, api.ErrLong)
		fault(t, full+"(**)¦"+last+" (*", api.ErrLong)
	}
	for _, last := range []string{"'a", "{b", "(* c"} {
		fault(t, full+" ¦"+last, api.ErrOpen)
	}
	less := strings.Repeat("a;", api.MaxTokens/2-1) + "a "
	for last, why := range map[string]api.Errno{"12a": api.ErrNumber, "#": api.ErrByte, "'": api.ErrOpen, "STRING#5": api.ErrNumber} {
		fault(t, less+"¦"+last, why)
	}
	fault(t, less+"STRING#¦'x", api.ErrOpen)
}

var pieces = strings.Fields(reservedWords + " " + allMarks + " a b_1 Zz t d TRUE false T# INT# -5 - _ # 16#FF 2#101 8#7 16 2 8 1_000 12 0 00 9 1.5 1. .5 1.5e3 e5 E-2 1.0e-21 LREAL# STRING# BOOL# BYTE# ULINT# LINT# 18446744073709551615 9223372036854775808 9007199254740992 'a' '$41' '$'' ' $ '$q' (* *) (*x*) // %IX0.7 %qb12 %MW %IX0.8 {a} { } {Bound|3} T#1s t#-1d_2h D#1970-01-01 TOD#15:36:55.36 DT#1984-06-25-15:36:55 DATE_AND_TIME# TIME_OF_DAY#00:00:00 aaaaaaaaaaaaaaaaaaaaaaaaa \xff \x00 @")

// soup is pieces of words, some of them right behind one another.
func soup(r *rand.Rand) string {
	var b strings.Builder
	blanks := []string{"", "", " ", "\n", "\t", "(* *)", "//\n", "\r"}
	for range r.Intn(8) {
		b.WriteString(pieces[r.Intn(len(pieces))])
		b.WriteString(blanks[r.Intn(len(blanks))])
	}
	return b.String()
}

// noise is a text of bytes that words are made of.
func noise(r *rand.Rand) string {
	const from = "aEfXtTdD#__1209..'$$%IXQB{}(*)/:=<>-+ \n_eE16#"
	l := make([]byte, r.Intn(12))
	for i := range l {
		l[i] = from[r.Intn(len(from))]
	}
	return string(l)
}

// P3.1: words as the model has them.
func TestAgainstModel(t *testing.T) {
	r := rand.New(rand.NewSource(3))
	for range 15000 {
		againstModel(t, soup(r))
		againstModel(t, noise(r))
	}
}

// P3.3, P3.6: a word by itself, and beginnings.
func TestWordAlone(t *testing.T) {
	r := rand.New(rand.NewSource(4))
	count := 0
	for range 15000 {
		src := soup(r)
		l, err := lex.Scan(src)
		if err != nil {
			continue
		}
		count++
		for i, w := range l {
			alone, err := lex.Scan(src[w.At:w.End])
			want := w
			want.At, want.End = 0, w.End-w.At
			if err != nil || !sameTokens(alone, []api.Token{want}) {
				t.Fatalf("%q: %v: %v %v", src, w, alone, err)
			}
			first, err := lex.Scan(src[:w.End])
			if err != nil || !sameTokens(first, l[:i+1]) {
				t.Fatalf("%q: %v: %v %v", src, w, first, err)
			}
		}
	}
	if count < 2000 {
		t.Error(count)
	}
}

// P3.4: case.
func TestCase(t *testing.T) {
	r := rand.New(rand.NewSource(5))
	for range 15000 {
		src := soup(r)
		if strings.Contains(src, "'") {
			continue
		}
		a, first := lex.Scan(src)
		for _, other := range []string{upper(src), strings.ToLower(src)} {
			if b, second := lex.Scan(other); first != second || !sameTokens(a, b) {
				t.Fatalf("%q: %v %v, %v %v", src, a, first, b, second)
			}
		}
	}
}

// P3.5: blanks.
func TestBlanks(t *testing.T) {
	r := rand.New(rand.NewSource(6))
	blanks := []string{" ", "\n", "\t", "\r", " (**)", "\t(* ' *)", "\n// {\n", " \n "}
	for range 10000 {
		src := soup(r)
		l, err := lex.Scan(src)
		if err != nil {
			continue
		}
		var b strings.Builder
		for _, w := range l {
			b.WriteString(src[w.At:w.End])
			b.WriteString(blanks[r.Intn(len(blanks))])
		}
		other, err := lex.Scan(b.String())
		if err != nil || !sameTokens(placeless(l), placeless(other)) {
			t.Fatalf("%q, %q: %v %v", src, b.String(), other, err)
		}
	}
}

// What is answered is memory of its own.
func TestOwnMemory(t *testing.T) {
	const src = "a := 'b'; %IX0.0 {c}"
	first, _ := lex.Scan(src)
	all := first[:cap(first)]
	for i := range all {
		all[i] = api.Token{Kind: 99}
	}
	second, err := lex.Scan(src)
	want, _ := model(src)
	if err != nil || !sameTokens(second, want) {
		t.Error(second, err)
	}
}

func FuzzScan(f *testing.F) {
	for _, s := range pieces {
		f.Add(s)
	}
	f.Fuzz(func(t *testing.T, src string) { againstModel(t, src) })
}
