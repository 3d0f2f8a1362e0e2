package st_test

import (
	"math/rand"
	"reflect"
	"strings"
	"testing"

	"relay/api"
	"relay/lex"
	"relay/st"
)

func scanned(t *testing.T, src string) []api.Token {
	t.Helper()
	l, err := lex.Scan(src)
	if err != nil {
		t.Fatalf("%q: %v", src, err)
	}
	return l
}

func parsed(t *testing.T, src string) []api.Stmt {
	t.Helper()
	l, err := st.Parse(src)
	if err != nil {
		t.Fatalf("%.300q: %v", src, err)
	}
	return l
}

// P5.1: just the tree, with its places, and all other fields zero.
func TestTrees(t *testing.T) {
	for seed := range int64(6000) {
		src, want := program(seed, false)
		if got := parsed(t, src); !alike(got, want) {
			t.Fatalf("%q:\n got %+v\nwant %+v", src, got, want)
		}
		// Body tells places by its words' alone.
		l := scanned(t, src)
		for i := range l {
			l[i].At += 1000
		}
		got, err := st.Body(l, len(src)+1000)
		if err != nil || !alike(placeless(got), placeless(want)) || len(got) > 0 && got[0].At != want[0].At+1000 {
			t.Fatalf("%q: %v %v", src, got, err)
		}
	}
}

// P5.2: the same of expressions; One takes as many words as can be.
func TestExprs(t *testing.T) {
	behind := []string{"", ")", "; a", ":= b", "THEN", "5", "a", "]", "{BOUND 3} WHILE", "END_IF", ",", "=> x", "NOT", "..", ":", "%IX0.0", "!"}
	for seed := range int64(6000) {
		m := newMaker(seed, false)
		want := m.expr(int(seed % 5))
		src := m.b.String()
		got, err := st.Expr(src)
		if err != nil || !reflect.DeepEqual(tidyExprs([]api.Expr{got}), tidyExprs([]api.Expr{want})) {
			t.Fatalf("%q:\n got %+v %v\nwant %+v", src, got, err, want)
		}
		more := behind[seed%int64(len(behind))]
		words := scanned(t, src+more)
		count := len(scanned(t, src))
		one, taken, err := st.One(words, len(src+more))
		if err != nil || taken != count || !reflect.DeepEqual(tidyExprs([]api.Expr{one}), tidyExprs([]api.Expr{want})) {
			t.Fatalf("%q: %+v %d %v", src+more, one, taken, err)
		}
		if more == "" {
			continue
		}
		if e, err := st.Expr(src + more); err != error(api.Fault{At: len(src), Why: api.ErrToken}) || !reflect.DeepEqual(e, api.Expr{}) {
			t.Fatalf("%q: %v %v", src+more, e, err)
		}
	}
}

// someWords is words of all sorts.
var someWords = strings.Fields("a b 5 INT#7 'x' 1.5 TRUE 3000000000 {BOUND_3} {X} %QX0.0 := => <> <= >= .. = < > + - * / ( ) [ ] , ; : . & | ! AND OR XOR NOT MOD IF THEN ELSIF ELSE END_IF CASE OF END_CASE FOR TO BY DO END_FOR WHILE END_WHILE REPEAT UNTIL END_REPEAT EXIT RETURN VAR INT END_VAR")

// P5.5: case and blanks play no part.
func TestCaseAndBlanks(t *testing.T) {
	for seed := range int64(1500) {
		src, want := program(seed, false)
		if strings.Contains(src, "'") {
			continue
		}
		var words []string
		for _, w := range scanned(t, src) {
			words = append(words, src[w.At:w.End])
		}
		for _, s := range []string{strings.ToUpper(src), strings.ToLower(src), strings.Join(words, " "), strings.Join(words, "\n(* x *)\t")} {
			if got := parsed(t, s); !reflect.DeepEqual(placeless(got), placeless(want)) {
				t.Fatalf("%q: %v", s, got)
			}
		}
	}
}

// Lists of words that nobody scanned are read to an end, too.
func TestWordsByHand(t *testing.T) {
	r := rand.New(rand.NewSource(3))
	texts := append([]string{"", "\x00", "BOUND 3", "BOUND 3"}, someWords...)
	for range 20000 {
		var l []api.Token
		for range r.Intn(12) {
			l = append(l, api.Token{Kind: r.Intn(9) - 1, At: r.Intn(100) - 50, End: r.Intn(100), Text: texts[r.Intn(len(texts))], Value: api.Value{Kind: api.Kind(r.Intn(25)), Bits: r.Uint64()}})
		}
		end := r.Intn(1000) - 500
		if s, err := st.Body(l, end); err != nil && len(s) > 0 {
			t.Fatal(l, s, err)
		}
		if e, n, err := st.One(l, end); n < 0 || n > len(l) || err != nil && (n > 0 || e.Op != 0) {
			t.Fatal(l, e, n, err)
		}
	}
}
