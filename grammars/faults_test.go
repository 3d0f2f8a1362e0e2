package grammars

import (
	"errors"
	"math/rand"
	"slices"
	"strings"
	"testing"

	"relay/api"
	"relay/graph"
	"relay/lex"
	"relay/sfc"
	"relay/st"
)

// Chapter 5, as it stands there, but that a label's literal is a "count", that a call in an expression has arguments of its own, and that each rule has one line.
const chapter5 = `
stmts = { stmt }
stmt = ";" | place ":=" expr ";" | name "(" [ arg { "," arg } ] ")" ";" | "IF" expr "THEN" stmts { "ELSIF" expr "THEN" stmts } [ "ELSE" stmts ] "END_IF" ";" | "CASE" expr "OF" { label { "," label } ":" stmts } [ "ELSE" stmts ] "END_CASE" ";" | "FOR" name ":=" expr "TO" expr [ "BY" expr ] "DO" stmts "END_FOR" ";" | pragma "WHILE" expr "DO" stmts "END_WHILE" ";" | pragma "REPEAT" stmts "UNTIL" expr "END_REPEAT" ";" | "EXIT" ";" | "RETURN" ";"
label = number [ ".." number ]
number = [ "-" ] count
arg = [ name ":=" ] expr | name "=>" place
inner = [ name ":=" ] expr
place = name [ "[" expr "]" | "." name ]
expr = xor { "OR" xor }
xor = and { "XOR" and }
and = equal { ( "AND" | "&" ) equal }
equal = less { ( "=" | "<>" ) less }
less = sum { ( "<" | "<=" | ">" | ">=" ) sum }
sum = term { ( "+" | "-" ) term }
term = unary { ( "*" | "/" | "MOD" ) unary }
unary = ( "-" | "NOT" ) unary | prime
prime = literal | place | name "(" [ inner { "," inner } ] ")" | "(" expr ")"
`

// Chapter 7, but that a literal behind "-" is a "bare" one; the marks [ ] and | are written as rules' words can be.
const chapter7 = `
ladder = { "RUNG" series "=>" coil { "," coil } ";" }
series = { contact }
contact = [ "!" | "+" | "-" ] item | "[" series { "|" series } "]"
coil = [ "!" | "+" | "-" ] item
item = name [ "." name ]
networks = { "NETWORK" { node ";" } "END_NETWORK" }
node = name ":" kind ":=" func "(" arg { "," arg } ")" | name "(" [ name ":=" wire { "," name ":=" wire } ] ")" | wire "=>" name
func = name | "AND" | "OR" | "XOR" | "NOT" | "MOD"
arg = [ name ":=" ] wire
wire = [ "NOT" ] ( "-" bare | literal | item )
`

// Chapter 8, but for links.
const chapter8 = `
chart = { step | trans | action }
step = ( "INITIAL_STEP" | "STEP" ) name ":" { link ";" } "END_STEP"
trans = "TRANSITION" [ name ] "FROM" steps "TO" steps ":=" expr ";" "END_TRANSITION"
steps = name | "(" name { "," name } ")"
action = "ACTION" name ":" stmts "END_ACTION"
`

// Links as the chapter's grammar has them, and as the qualifiers want them: behind one without a time a "," may stand, but no literal.
const (
	looseLink  = `link = name "(" name [ "," literal ] ")"`
	strictLink = `link = name "(" ( plain [ "," never ] ")" | timed "," span ")" )`
)

// someWords is words of all sorts; a ~ stands for a blank.
var someWords = strings.Fields("a b N L 5 INT#7 'x' 1.5 TRUE 3000000000 T#1s {BOUND~3} {X} %QX0.0 := => <> <= >= .. = < > + - * / ( ) [ ] , ; : . & | ! AND OR XOR NOT MOD IF THEN ELSIF ELSE END_IF CASE OF END_CASE FOR TO BY DO END_FOR WHILE END_WHILE REPEAT UNTIL END_REPEAT EXIT RETURN VAR INT END_VAR RUNG NETWORK END_NETWORK STEP INITIAL_STEP END_STEP TRANSITION FROM END_TRANSITION ACTION END_ACTION")

func someWord(r *rand.Rand) string {
	return strings.ReplaceAll(someWords[r.Intn(len(someWords))], "~", " ")
}

// broken is words of which some are left out, stand twice, or are others.
func broken(r *rand.Rand, l []string) []string {
	l = slices.Clone(l)
	for range []int{0, 1, 1, 1, 2, 3}[r.Intn(6)] {
		if len(l) == 0 {
			break
		}
		i := r.Intn(len(l))
		switch r.Intn(5) {
		case 0:
			l = append(l[:i:i], l[i+1:]...)
		case 1:
			l = append(l[:i+1:i+1], l[i:]...)
		case 2:
			l = l[:i]
		default:
			l[i] = someWord(r)
		}
	}
	return l
}

func scanned(t *testing.T, src string) []api.Token {
	t.Helper()
	l, err := lex.Scan(src)
	if err != nil {
		t.Fatalf("%q: %v", src, err)
	}
	return l
}

// faulty is a rule of a grammar, what reads it, and the fault that must come.
type faulty struct {
	rule  string
	read  func(src string) (count int, err error)
	fault func(l []api.Token, end int) error
}

// hold writes words by a rule, breaks them, and holds the faults against those that must come; it answers how many of each came. What stands behind the word of an ErrToken plays no part.
func (f faulty) hold(t *testing.T, g *grammar, texts int) map[api.Errno]int {
	t.Helper()
	r := rand.New(rand.NewSource(1))
	count := map[api.Errno]int{}
	for range texts {
		l := broken(r, g.written(r, f.rule, 4+r.Intn(14)))
		if len(l) == 0 || len(l) > 100 {
			continue
		}
		src := strings.Join(l, []string{" ", "\n", " (* x *) "}[r.Intn(3)])
		words := scanned(t, src)
		want := f.fault(words, len(src))
		got, err := f.read(src)
		if err != want || err != nil && got != 0 {
			t.Fatalf("%q: %d %v, wanted %v", src, got, err, want)
		}
		var fault api.Fault
		if !errors.As(err, &fault) {
			count[api.OK]++
			continue
		}
		count[fault.Why]++
		i := slices.IndexFunc(words, func(w api.Token) bool { return w.At == fault.At })
		if i < 0 || fault.Why != api.ErrToken {
			continue
		}
		for range 3 {
			more := src[:words[i].End]
			for range r.Intn(5) {
				more += " " + someWord(r)
			}
			// The words up to that one are the same: so the fault is.
			if want := f.fault(scanned(t, more), len(more)); want != error(fault) {
				t.Fatalf("%q: %v, and %q: %v", src, fault, more, want)
			} else if _, err := f.read(more); err != want {
				t.Fatalf("%q: %v, wanted %v", more, err, want)
			}
		}
	}
	return count
}

// P5.1, P5.6, P7.1, P7.6: the first fault and its place are those that the grammar gives, word by word.
func TestFaults(t *testing.T) {
	t.Parallel()
	five, seven := newGrammar(chapter5), newGrammar(chapter7)
	byRule := func(g *grammar, rule string) func([]api.Token, int) error {
		return func(l []api.Token, end int) error { return g.fault(rule, l, end) }
	}
	stmts := faulty{"stmts", func(src string) (int, error) { l, err := st.Parse(src); return len(l), err }, byRule(five, "stmts")}
	expr := faulty{"expr", func(src string) (int, error) { e, err := st.Expr(src); return e.Op, err }, byRule(five, "expr")}
	ladder := faulty{"ladder", func(src string) (int, error) { l, err := graph.Ladder(src); return len(l), err }, byRule(seven, "ladder")}
	if n := stmts.hold(t, five, 4000); n[api.OK] < 200 || n[api.ErrToken] < 500 || n[api.ErrBound] < 10 {
		t.Error(n)
	}
	if n := expr.hold(t, five, 3000); n[api.OK] < 200 || n[api.ErrToken] < 500 {
		t.Error(n)
	}
	if n := ladder.hold(t, seven, 5000); n[api.OK] < 200 || n[api.ErrToken] < 500 {
		t.Error(n)
	}
}

// P5.2: One's fault is the grammar's, unless the grammar's is at what stands behind the expression.
func TestOne(t *testing.T) {
	t.Parallel()
	g := newGrammar(chapter5)
	r := rand.New(rand.NewSource(2))
	for range 3000 {
		src := strings.Join(broken(r, g.written(r, "expr", 4+r.Intn(14))), " ")
		words := scanned(t, src)
		if len(words) > 100 {
			continue
		}
		want := g.fault("expr", words, len(src))
		e, taken, err := st.One(words, len(src))
		switch {
		case err != nil && (err != want || taken != 0 || e.Op != 0):
			t.Fatalf("%q: %v %d %v", src, e, taken, err)
		case err == nil && want == nil && taken != len(words), err == nil && want != nil && words[taken].At != want.(api.Fault).At:
			t.Fatalf("%q: %d, wanted %v", src, taken, want)
		}
	}
}

// earlier is the one of two faults that is told; at one place that of the word which can't stand there.
func earlier(a error, b *api.Fault) error {
	if b == nil || a != nil && a.(api.Fault).At <= b.At {
		return a
	}
	return *b
}

// Networks with many nodes of functions, for texts alone.
const manyNodes = `
many = { "NETWORK" function ";" function ";" function ";" { node ";" } "END_NETWORK" }
function = name ":" kind ":=" func "(" arg ")"
`

// P7.2, P7.6: of networks likewise; and ErrNode at a name, with ":" behind it, that another one has in its network.
func TestNetworkFaults(t *testing.T) {
	t.Parallel()
	g := newGrammar(chapter7 + manyNodes)
	networks := faulty{"networks", func(src string) (int, error) { l, err := graph.Networks(src); return len(l), err }, func(l []api.Token, end int) error {
		names := map[string]bool{}
		for i, w := range l {
			if w.Text == "NETWORK" {
				names = map[string]bool{}
			}
			if w.Kind != api.TokName || i+1 == len(l) || l[i+1].Text != ":" {
				continue
			}
			if names[w.Text] {
				return earlier(g.fault("networks", l, end), &api.Fault{At: w.At, Why: api.ErrNode})
			}
			names[w.Text] = true
		}
		return g.fault("networks", l, end)
	}}
	if n := networks.hold(t, g, 5000); n[api.OK] < 200 || n[api.ErrToken] < 500 {
		t.Error(n)
	}
	networks.rule = "many"
	if n := networks.hold(t, g, 2000); n[api.ErrNode] < 80 {
		t.Error(n)
	}
}

// names is what a chart's words say up to one that can't stand there: names that are there already, or too many.
type names struct {
	steps, actions, side []string
	trans, links         int
	inTrans, inStep      bool
}

// fault is that of a word, the one ahead of it being another; nil, if it has none.
func (n *names) fault(ahead, w api.Token) *api.Fault {
	switch {
	case w.Text == "TRANSITION":
		n.trans++
		n.inTrans = true
		if n.trans > api.MaxTrans {
			return &api.Fault{At: w.At, Why: api.ErrFull}
		}
	case w.Text == "END_STEP":
		n.inStep = false
	case w.Text == "FROM", w.Text == "TO":
		n.side = nil
	case n.inTrans && w.Text == ":=":
		n.inTrans = false
	case w.Kind != api.TokName:
	case ahead.Text == "STEP", ahead.Text == "INITIAL_STEP":
		n.inStep, n.links = true, 0
		return add(&n.steps, w, api.MaxSteps)
	case ahead.Text == "ACTION":
		return add(&n.actions, w, api.MaxSteps)
	case n.inTrans && ahead.Text != "TRANSITION":
		return add(&n.side, w, api.MaxLinks)
	case n.inStep && ahead.Text != "(":
		n.links++
		if n.links > api.MaxLinks {
			return &api.Fault{At: w.At, Why: api.ErrFull}
		}
	}
	return nil
}

func add(l *[]string, w api.Token, most int) *api.Fault {
	if len(*l) == most {
		return &api.Fault{At: w.At, Why: api.ErrFull}
	}
	if slices.Contains(*l, w.Text) {
		return &api.Fault{At: w.At, Why: api.ErrTwice}
	}
	*l = append(*l, w.Text)
	return nil
}

// chartFault is the fault of a chart's words: where the grammar with links as the qualifiers want them can't go on, but the chapter's can, it is the qualifier's.
func chartFault(loose, strict *grammar, l []api.Token, end int) error {
	err := strict.fault("chart", l, end)
	stands := loose.read("chart", l).taken
	if taken := strict.read("chart", l).taken; taken < stands {
		err = api.Fault{At: l[taken].At, Why: api.ErrQual}
	}
	var n names
	var ahead api.Token
	for _, w := range l[:stands] {
		if f := n.fault(ahead, w); f != nil {
			return earlier(err, f)
		}
		ahead = w
	}
	return err
}

// P8.1: all faults of charts but ErrDeep.
func TestChartFaults(t *testing.T) {
	t.Parallel()
	loose, strict := newGrammar(chapter5+chapter8+looseLink), newGrammar(chapter5+chapter8+strictLink)
	chart := faulty{"chart", func(src string) (int, error) {
		c, err := sfc.Parse(src)
		return len(c.Steps) + len(c.Trans) + len(c.Actions), err
	}, func(l []api.Token, end int) error { return chartFault(loose, strict, l, end) }}
	if n := chart.hold(t, strict, 5000); n[api.OK] < 200 || n[api.ErrToken] < 500 || n[api.ErrTwice] < 100 {
		t.Error(n)
	}
	if n := chart.hold(t, loose, 3000); n[api.ErrQual] < 50 {
		t.Error(n)
	}
}
