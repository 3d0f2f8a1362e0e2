package st_test

import (
	"math/rand"
	"reflect"
	"strings"
	"testing"

	"relay/api"
	"relay/st"
)

// nest is what begins and what ends; each word that makes it deeper has a mark ahead.
type nest struct{ open, shut string }

var (
	exprNests = []nest{{"¦(", ")"}, {"f¦(", ")"}, {"f¦(x := ", ")"}, {"f¦(1, ", ")"}, {"a¦[", "]"}, {"¦-", ""}, {"¦NOT ", ""}, {"¦(1 + ", ")"}, {"¦(b AND ¦NOT ", ")"}}
	stmtNests = []nest{
		{"¦IF c THEN ", " END_IF;"}, {"¦IF c THEN ELSE ", " END_IF;"}, {"¦IF c THEN ¦ELSIF c THEN ", " END_IF;"}, {"¦IF c THEN ¦ELSIF c THEN ELSE ", " END_IF;"}, {"¦CASE c OF 1: ", " END_CASE;"}, {"¦CASE c OF -1..-5: ; ELSE ", " END_CASE;"},
		{"¦FOR i := 1 TO 2 DO ", " END_FOR;"}, {"{BOUND 3} ¦WHILE c DO ", " END_WHILE;"}, {"{BOUND 3} ¦REPEAT ", " UNTIL c END_REPEAT;"},
	}
	// What stands between statements and an expression.
	heads = []nest{
		{"a := ", ";"}, {"a¦[", "] := 1;"}, {"t¦(", ");"}, {"t¦(x := ", ");"}, {"t¦(q => a¦[", "]);"}, {"¦IF ", " THEN END_IF;"}, {"¦IF c THEN ¦ELSIF ", " THEN END_IF;"}, {"¦CASE ", " OF 1: END_CASE;"},
		{"¦FOR i := ", " TO 1 DO END_FOR;"}, {"¦FOR i := 1 TO ", " DO END_FOR;"}, {"¦FOR i := 1 TO 1 BY ", " DO END_FOR;"}, {"{BOUND 3} ¦WHILE ", " DO END_WHILE;"}, {"{BOUND 3} ¦REPEAT UNTIL ", " END_REPEAT;"},
	}
)

// nested is a text of things within one another, and the places of the words that make it deeper.
func nested(l []nest, inner string) (string, []int) {
	text := inner
	for i := len(l) - 1; i >= 0; i-- {
		text = l[i].open + text + l[i].shut
	}
	parts := strings.Split(text, "¦")
	var places []int
	at := 0
	for _, p := range parts[:len(parts)-1] {
		at += len(p)
		places = append(places, at)
	}
	return strings.Join(parts, ""), places
}

// deepFault is the fault of a depth at such places.
func deepFault(places []int) error {
	if len(places) > api.MaxDeep {
		return api.Fault{At: places[api.MaxDeep], Why: api.ErrDeep}
	}
	return nil
}

func repeated(n int, x nest) []nest {
	var l []nest
	for range n {
		l = append(l, x)
	}
	return l
}

func checkDepth(t *testing.T, l []nest, inner string) {
	t.Helper()
	src, places := nested(l, inner)
	if _, err := st.Parse(src); err != deepFault(places) {
		t.Fatalf("%q: %v, wanted %v", src, err, deepFault(places))
	}
}

// P5.1, P5.2: a depth of MaxDeep and one more, of each thing by itself.
func TestDepth(t *testing.T) {
	for _, x := range exprNests {
		for n := 30; n < 36; n++ {
			src, places := nested(repeated(n, x), "a")
			e, err := st.Expr(src)
			if err != deepFault(places) || err != nil && !reflect.DeepEqual(e, api.Expr{}) {
				t.Errorf("%q: %v", src, err)
			}
			if one, taken, err := st.One(scanned(t, src), len(src)); err != deepFault(places) || err != nil && (taken != 0 || !reflect.DeepEqual(one, api.Expr{})) {
				t.Errorf("%q: %v", src, err)
			}
			for _, h := range heads {
				checkDepth(t, append([]nest{h}, repeated(n-2, x)...), "a")
			}
		}
	}
	for _, x := range stmtNests {
		for n := 14; n < 36; n++ {
			checkDepth(t, repeated(n, x), "")
		}
	}
	for n := 29; n < 35; n++ {
		src, places := nested([]nest{{"¦IF c THEN " + strings.Repeat("¦ELSIF c THEN ; ", n), "END_IF;"}}, "")
		if _, err := st.Parse(src); err != deepFault(places) {
			t.Errorf("%q: %v", src, err)
		}
	}
}

// The same of things of all sorts within one another.
func TestDepthMixed(t *testing.T) {
	r := rand.New(rand.NewSource(1))
	for range 4000 {
		var l []nest
		n := 20 + r.Intn(16)
		for range r.Intn(n) {
			l = append(l, stmtNests[r.Intn(len(stmtNests))])
		}
		l = append(l, heads[r.Intn(len(heads))])
		for len(l) < n {
			l = append(l, exprNests[r.Intn(len(exprNests))])
		}
		checkDepth(t, l, "a")
	}
}

// What has ended does not count; nor does a label's -.
func TestDepthEnds(t *testing.T) {
	many := func(s string) string { return strings.Repeat(s, 40) }
	deep := strings.Repeat("IF c THEN ", api.MaxDeep-1)
	shut := strings.Repeat(" END_IF;", api.MaxDeep-1)
	for _, inner := range []string{
		many("IF c THEN END_IF;"), many("CASE c OF 1: END_CASE;"), many("FOR i := 1 TO 2 DO END_FOR;"), many("{BOUND 1} WHILE c DO END_WHILE;"), many("{BOUND 1} REPEAT UNTIL c END_REPEAT;"), many("t(a, q => b);"),
		"CASE c OF" + many(" -1, -2..-3: ;") + " END_CASE;", "a := " + many("-b + ") + "c;", "a := " + many("(b) + ") + "NOT c;", "a := " + many("b[1] * ") + "f(c);", "a := " + many("f(b) AND ") + "c[1];", "a := b" + many(" - -b") + ";", many("a[1] := -b;"),
	} {
		parsed(t, deep+inner+shut)
	}
	parsed(t, many("IF c THEN "+strings.Repeat("ELSIF c THEN ", api.MaxDeep-1)+"END_IF;"))
}

// P5.1: of one word ErrBound comes ahead of ErrDeep; what would be too deep but can't stand there is ErrToken.
func TestDepthOrder(t *testing.T) {
	deep := strings.Repeat("IF c THEN ", api.MaxDeep)
	faults(t, api.ErrBound, deep+"¦WHILE a DO", deep+"¦REPEAT", deep+"¦{x} WHILE")
	faults(t, api.ErrDeep, deep+"{BOUND 3} ¦WHILE", deep+"{BOUND 3} ¦REPEAT", deep+"¦IF", deep+"; ¦ELSIF", deep+"a¦[", deep+"a¦(", deep+"a := ¦-", deep+"a := ¦NOT", deep+"a := b¦[", deep+"¦CASE", deep+"¦FOR 5", deep+"ELSE ¦IF")
	faults(t, api.ErrToken, deep+"{BOUND 3} ¦IF", deep+"¦(", deep+"a := 5 ¦(", deep+"¦-", deep+"¦NOT", deep+"a := b ¦NOT", deep+"a.b¦[", deep+"ELSE ¦ELSIF", deep+"a := ¦IF")
}
