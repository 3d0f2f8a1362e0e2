package st_test

import (
	"regexp"
	"strconv"
	"strings"

	"relay/api"
)

// The chapter's grammar, as it stands there, but that a label's literal is a "count", that a call in an expression has arguments of its own, and that each rule has one line.
const chapter = `
stmts = { stmt }
stmt = ";" | place ":=" expr ";" | name "(" [ arg { "," arg } ] ")" ";" | "IF" expr "THEN" stmts { "ELSIF" expr "THEN" stmts } [ "ELSE" stmts ] "END_IF" ";" | "CASE" expr "OF" { label { "," label } ":" stmts } [ "ELSE" stmts ] "END_CASE" ";" | "FOR" name ":=" expr "TO" expr [ "BY" expr ] "DO" stmts "END_FOR" ";" | pragma "WHILE" expr "DO" stmts "END_WHILE" ";" | pragma "REPEAT" stmts "UNTIL" expr "END_REPEAT" ";" | "EXIT" ";" | "RETURN" ";"
label = number [ ".." number ]
number = [ "-" ] count
arg = [ name ":=" ] expr | name "=>" place
inner = [ name ":=" ] expr
place = name [ "[" expr "]" | "." name ]
expr = xor { "OR" xor }
xor = and { "XOR" and }
and = equal { ( "AND" | "&" ) equal }
equal = less { ( "=" | "<>" ) less }
less = sum { ( "<" | "<=" | ">" | ">=" ) sum }
sum = term { ( "+" | "-" ) term }
term = unary { ( "*" | "/" | "MOD" ) unary }
unary = ( "-" | "NOT" ) unary | prime
prime = literal | place | name "(" [ inner { "," inner } ] ")" | "(" expr ")"
`

// grammar is rules as rows of symbols, of which those without a rule are words.
type grammar struct {
	rules map[string][][]string
	words []string // of the rule that is read
	made  int
}

func newGrammar() *grammar {
	g := &grammar{rules: map[string][][]string{}}
	for _, line := range strings.Split(strings.TrimSpace(chapter), "\n") {
		name, rule, _ := strings.Cut(line, " = ")
		g.words = strings.Fields(rule)
		g.rules[name] = g.choices()
	}
	return g
}

// choices reads rows with | between.
func (g *grammar) choices() [][]string {
	rows := [][]string{nil}
	for len(g.words) > 0 {
		w := g.words[0]
		g.words = g.words[1:]
		last := len(rows) - 1
		switch w {
		case "|":
			rows = append(rows, nil)
		case "]", "}", ")":
			return rows
		case "(", "[", "{":
			inner := g.choices()
			g.made++
			name := "#" + strconv.Itoa(g.made)
			switch w {
			case "[":
				inner = append(inner, nil)
			case "{":
				for i := range inner {
					inner[i] = append(inner[i], name)
				}
				inner = append(inner, nil)
			}
			g.rules[name] = inner
			rows[last] = append(rows[last], name)
		default:
			rows[last] = append(rows[last], strings.Trim(w, `"`))
		}
	}
	return rows
}

// item is a row of a rule that is read up to a symbol, from a word on.
type item struct {
	name           string
	row, dot, from int
}

// items is those that can be at a word (Earley's sets), and the words that they wait for.
type items struct {
	list  []item
	known map[item]bool
	waits map[string]bool
}

func newItems() *items { return &items{known: map[item]bool{}, waits: map[string]bool{}} }

func (s *items) add(x item) {
	if !s.known[x] {
		s.known[x] = true
		s.list = append(s.list, x)
	}
}

// fill adds all that follows from the items of the set at a word.
func (g *grammar) fill(sets []*items) {
	here := len(sets) - 1
	s := sets[here]
	// Rules that end where they begin may end ahead of those that wait for them.
	for before := -1; before < len(s.list); {
		before = len(s.list)
		for i := 0; i < len(s.list); i++ {
			x := s.list[i]
			row := g.rules[x.name][x.row]
			if x.dot == len(row) {
				for _, y := range sets[x.from].list {
					if over := g.rules[y.name][y.row]; y.dot < len(over) && over[y.dot] == x.name {
						y.dot++
						s.add(y)
					}
				}
				continue
			}
			next := row[x.dot]
			if g.rules[next] == nil {
				s.waits[next] = true
				continue
			}
			for n := range g.rules[next] {
				s.add(item{name: next, row: n, from: here})
			}
		}
	}
}

var boundForm = regexp.MustCompile(`^BOUND ([1-9][0-9]{0,4})$`)

func isBound(t api.Token) bool {
	m := boundForm.FindStringSubmatch(t.Text)
	if m == nil {
		return false
	}
	n, _ := strconv.Atoi(m[1])
	return n <= 65536
}

// symbols is what a word is in the grammar.
func symbols(t api.Token) []string {
	switch t.Kind {
	case api.TokName:
		return []string{"name"}
	case api.TokLit:
		if t.Value.Kind == api.KNone && t.Value.Bits <= 1<<31 {
			return []string{"literal", "count"}
		}
		return []string{"literal"}
	case api.TokPragma:
		if isBound(t) {
			return []string{"pragma"}
		}
		return nil
	case api.TokAddr:
		return nil
	}
	return []string{t.Text}
}

// fault is the first one of words that are read by a rule, depth aside; nil, if there is none.
func (g *grammar) fault(rule string, l []api.Token, end int) error {
	sets := []*items{newItems()}
	for n := range g.rules[rule] {
		sets[0].add(item{name: rule, row: n})
	}
	g.fill(sets)
	for _, t := range l {
		s := sets[len(sets)-1]
		after := newItems()
		for _, w := range symbols(t) {
			for _, x := range s.list {
				if row := g.rules[x.name][x.row]; x.dot < len(row) && row[x.dot] == w {
					x.dot++
					after.add(x)
				}
			}
		}
		if len(after.list) == 0 {
			isLoop := t.Kind == api.TokPragma && !isBound(t) || t.Kind == api.TokWord && (t.Text == "WHILE" || t.Text == "REPEAT")
			if isLoop && s.waits["pragma"] {
				return api.Fault{At: t.At, Why: api.ErrBound}
			}
			return api.Fault{At: t.At, Why: api.ErrToken}
		}
		sets = append(sets, after)
		g.fill(sets)
	}
	for n, row := range g.rules[rule] {
		if sets[len(sets)-1].known[item{name: rule, row: n, dot: len(row)}] {
			return nil
		}
	}
	return api.Fault{At: end, Why: api.ErrToken}
}
