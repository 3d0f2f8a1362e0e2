package st_test

import (
	"errors"
	"math/rand"
	"reflect"
	"strings"
	"testing"

	"relay/api"
	"relay/lex"
	"relay/st"
)

func scanned(t *testing.T, src string) []api.Token {
	t.Helper()
	l, err := lex.Scan(src)
	if err != nil {
		t.Fatalf("%q: %v", src, err)
	}
	return l
}

func parsed(t *testing.T, src string) []api.Stmt {
	t.Helper()
	l, err := st.Parse(src)
	if err != nil {
		t.Fatalf("%.300q: %v", src, err)
	}
	return l
}

// P5.1: just the tree, with its places, and all other fields zero.
func TestTrees(t *testing.T) {
	for seed := range int64(6000) {
		src, want := program(seed, false)
		if got := parsed(t, src); !alike(got, want) {
			t.Fatalf("%q:\n got %+v\nwant %+v", src, got, want)
		}
		// Body tells places by its words' alone.
		l := scanned(t, src)
		for i := range l {
			l[i].At += 1000
		}
		got, err := st.Body(l, len(src)+1000)
		if err != nil || !alike(placeless(got), placeless(want)) || len(got) > 0 && got[0].At != want[0].At+1000 {
			t.Fatalf("%q: %v %v", src, got, err)
		}
	}
}

// P5.2: the same of expressions; One takes as many words as can be.
func TestExprs(t *testing.T) {
	behind := []string{"", ")", "; a", ":= b", "THEN", "5", "a", "]", "{BOUND 3} WHILE", "END_IF", ",", "=> x", "NOT", "..", ":", "%IX0.0", "!"}
	for seed := range int64(6000) {
		m := newMaker(seed, false)
		want := m.expr(int(seed % 5))
		src := m.b.String()
		got, err := st.Expr(src)
		if err != nil || !reflect.DeepEqual(tidyExprs([]api.Expr{got}), tidyExprs([]api.Expr{want})) {
			t.Fatalf("%q:\n got %+v %v\nwant %+v", src, got, err, want)
		}
		more := behind[seed%int64(len(behind))]
		words := scanned(t, src+more)
		count := len(scanned(t, src))
		one, taken, err := st.One(words, len(src+more))
		if err != nil || taken != count || !reflect.DeepEqual(tidyExprs([]api.Expr{one}), tidyExprs([]api.Expr{want})) {
			t.Fatalf("%q: %+v %d %v", src+more, one, taken, err)
		}
		if more == "" {
			continue
		}
		if e, err := st.Expr(src + more); err != error(api.Fault{At: len(src), Why: api.ErrToken}) || !reflect.DeepEqual(e, api.Expr{}) {
			t.Fatalf("%q: %v %v", src+more, e, err)
		}
	}
}

// someWords is words of all sorts.
var someWords = strings.Fields("a b 5 INT#7 'x' 1.5 TRUE 3000000000 {BOUND_3} {X} %QX0.0 := => <> <= >= .. = < > + - * / ( ) [ ] , ; : . & | ! AND OR XOR NOT MOD IF THEN ELSIF ELSE END_IF CASE OF END_CASE FOR TO BY DO END_FOR WHILE END_WHILE REPEAT UNTIL END_REPEAT EXIT RETURN VAR INT END_VAR")

func someWord(r *rand.Rand) string {
	return strings.ReplaceAll(someWords[r.Intn(len(someWords))], "_3", " 3")
}

// broken is a text in which some words are left out, stand twice, or are others.
func broken(r *rand.Rand, src string) string {
	l, _ := lex.Scan(src)
	var texts []string
	for _, w := range l {
		texts = append(texts, src[w.At:w.End])
	}
	for range 1 + r.Intn(2) {
		if len(texts) == 0 {
			break
		}
		i := r.Intn(len(texts))
		switch r.Intn(4) {
		case 0:
			texts = append(texts[:i:i], texts[i+1:]...)
		case 1:
			texts = append(texts[:i+1:i+1], texts[i:]...)
		case 2:
			texts = texts[:i]
		default:
			texts[i] = someWord(r)
		}
	}
	return strings.Join(texts, " ")
}

// P5.1: the first fault and its place are those that the grammar gives, word by word; P5.6: what stands behind it plays no part.
func TestFaultsByGrammar(t *testing.T) {
	g := newGrammar()
	r := rand.New(rand.NewSource(1))
	count := map[error]int{}
	for seed := range int64(8000) {
		src, _ := program(seed%2000, false)
		if len(src) > 600 {
			continue
		}
		src = broken(r, src)
		words := scanned(t, src)
		want := g.fault("stmts", words, len(src))
		l, err := st.Parse(src)
		if err != want || err != nil && len(l) != 0 {
			t.Fatalf("%q: %v %v, wanted %v", src, l, err, want)
		}
		var f api.Fault
		if !errors.As(err, &f) {
			continue
		}
		count[f.Why]++
		for range 3 {
			more := ""
			for range r.Intn(5) {
				more += " " + someWord(r)
			}
			for _, w := range words {
				if w.At == f.At {
					if _, err := st.Parse(src[:w.End] + more); err != want {
						t.Fatalf("%q: %v, wanted %v", src[:w.End]+more, err, want)
					}
				}
			}
		}
	}
	if count[api.ErrToken] < 1000 || count[api.ErrBound] < 50 {
		t.Error(count)
	}
}

// The same of expressions: One's fault is the grammar's, unless the grammar's is at what stands behind the expression.
func TestExprFaultsByGrammar(t *testing.T) {
	g := newGrammar()
	r := rand.New(rand.NewSource(2))
	for seed := range int64(8000) {
		m := newMaker(seed, false)
		m.expr(int(seed % 4))
		src := broken(r, m.b.String())
		words := scanned(t, src)
		want := g.fault("expr", words, len(src))
		e, err := st.Expr(src)
		if err != want || err != nil && !reflect.DeepEqual(e, api.Expr{}) {
			t.Fatalf("%q: %v %v, wanted %v", src, e, err, want)
		}
		one, taken, err := st.One(words, len(src))
		switch {
		case err != nil && (err != want || taken != 0 || !reflect.DeepEqual(one, api.Expr{})):
			t.Fatalf("%q: %v %d %v", src, one, taken, err)
		case err == nil && want != nil && words[taken].At != want.(api.Fault).At:
			t.Fatalf("%q: %d, wanted %v", src, taken, want)
		}
	}
}

// P5.5: case and blanks play no part.
func TestCaseAndBlanks(t *testing.T) {
	for seed := range int64(1500) {
		src, want := program(seed, false)
		if strings.Contains(src, "'") {
			continue
		}
		var words []string
		for _, w := range scanned(t, src) {
			words = append(words, src[w.At:w.End])
		}
		for _, s := range []string{strings.ToUpper(src), strings.ToLower(src), strings.Join(words, " "), strings.Join(words, "\n(* x *)\t")} {
			if got := parsed(t, s); !reflect.DeepEqual(placeless(got), placeless(want)) {
				t.Fatalf("%q: %v", s, got)
			}
		}
	}
}

// Lists of words that nobody scanned are read to an end, too.
func TestWordsByHand(t *testing.T) {
	r := rand.New(rand.NewSource(3))
	texts := append([]string{"", "\x00", "BOUND 3", "BOUND 3"}, someWords...)
	for range 20000 {
		var l []api.Token
		for range r.Intn(12) {
			l = append(l, api.Token{Kind: r.Intn(9) - 1, At: r.Intn(100) - 50, End: r.Intn(100), Text: texts[r.Intn(len(texts))], Value: api.Value{Kind: api.Kind(r.Intn(25)), Bits: r.Uint64()}})
		}
		end := r.Intn(1000) - 500
		if s, err := st.Body(l, end); err != nil && len(s) > 0 {
			t.Fatal(l, s, err)
		}
		if e, n, err := st.One(l, end); n < 0 || n > len(l) || err != nil && (n > 0 || e.Op != 0) {
			t.Fatal(l, e, n, err)
		}
	}
}
