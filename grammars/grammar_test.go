// Package grammars holds the layers that read a grammar against the grammars of their chapters: which words may stand where, and so which word is the first that can't.
package grammars

import (
	"math/rand"
	"slices"
	"strconv"
	"strings"

	"relay/api"
	"relay/value"
)

// grammar is rules as rows of symbols, of which those without a rule are words.
type grammar struct {
	rules map[string][][]string
	least map[string]int // how many rules are within one another at least
	words []string       // of the rule that is read
	made  int
}

// newGrammar reads a chapter's rules, each in a line of its own.
func newGrammar(chapter string) *grammar {
	g := &grammar{rules: map[string][][]string{}, least: map[string]int{}}
	for _, line := range strings.Split(strings.TrimSpace(chapter), "\n") {
		name, rule, _ := strings.Cut(line, " = ")
		g.words = strings.Fields(rule)
		g.rules[name] = g.choices()
	}
	for range g.rules {
		for name, rows := range g.rules {
			for _, row := range rows {
				if n := g.rowLeast(row) + 1; n < 1000 && (g.least[name] == 0 || n < g.least[name]) {
					g.least[name] = n
				}
			}
		}
	}
	return g
}

// rowLeast is as least, of a row; 1000, if it is not known yet.
func (g *grammar) rowLeast(row []string) int {
	most := 0
	for _, s := range row {
		n := g.least[s]
		if g.rules[s] != nil && n == 0 {
			return 1000
		}
		most = max(most, n)
	}
	return most
}

// choices reads rows with | between.
func (g *grammar) choices() [][]string {
	rows := [][]string{nil}
	for len(g.words) > 0 {
		w := g.words[0]
		g.words = g.words[1:]
		last := len(rows) - 1
		switch w {
		case "|":
			rows = append(rows, nil)
		case "]", "}", ")":
			return rows
		case "(", "[", "{":
			inner := g.choices()
			g.made++
			name := "#" + strconv.Itoa(g.made)
			switch w {
			case "[":
				inner = append(inner, nil)
			case "{":
				for i := range inner {
					inner[i] = append(inner[i], name)
				}
				inner = append(inner, nil)
			}
			g.rules[name] = inner
			rows[last] = append(rows[last], name)
		default:
			rows[last] = append(rows[last], strings.Trim(w, `"`))
		}
	}
	return rows
}

// written is words that a rule may be, with at most so many rules within one another, if so few do.
func (g *grammar) written(r *rand.Rand, rule string, most int) []string {
	rows := g.rules[rule]
	if rows == nil {
		if l := strings.Fields(examples[rule]); len(l) > 0 {
			return []string{strings.ReplaceAll(l[r.Intn(len(l))], "~", " ")}
		}
		return []string{rule}
	}
	row := rows[r.Intn(len(rows))]
	if len(row) == 0 && r.Intn(2) == 0 {
		row = rows[0]
	}
	if g.rowLeast(row) >= most {
		row = slices.MinFunc(rows, func(a, b []string) int { return g.rowLeast(a) - g.rowLeast(b) })
	}
	var l []string
	for _, s := range row {
		l = append(l, g.written(r, s, most-1)...)
	}
	return l
}

// examples is words of each sort; a ~ stands for a blank.
var examples = map[string]string{
	"name": "a b Cd q_1 n s L sd P0", "literal": "5 INT#7 TRUE 'x' 1.5 3000000000 T#5s T#-5s 16#FF", "bare": "5 16#ff 18446744073709551615", "count": "0 5 2147483648",
	"pragma": "{BOUND~3} {bound~65536}", "kind": "INT bool TIME STRING LWORD", "plain": "n S R p P0 P1", "timed": "L d SD DS sl", "span": "T#5s T#0s TIME#1d2h",
}

// symbols is what a word is in the grammars.
func symbols(t api.Token) []string {
	switch t.Kind {
	case api.TokName:
		for _, sort := range []string{"plain", "timed"} {
			if slices.Contains(strings.Fields(strings.ToUpper(examples[sort])), t.Text) {
				return []string{"name", sort}
			}
		}
		return []string{"name"}
	case api.TokLit:
		return literalSymbols(t.Value)
	case api.TokPragma:
		if isBound(t) {
			return []string{"pragma"}
		}
		return nil
	case api.TokAddr:
		return nil
	}
	if _, is := value.Kind(t.Text); is {
		return []string{"kind"}
	}
	return []string{t.Text}
}

func literalSymbols(v api.Value) []string {
	switch {
	case v.Kind == api.KNone && v.Bits <= 1<<31:
		return []string{"literal", "bare", "count"}
	case v.Kind == api.KNone:
		return []string{"literal", "bare"}
	case v.Kind == api.KTime && v.Bits < 1<<63:
		return []string{"literal", "span"}
	}
	return []string{"literal"}
}

func isBound(t api.Token) bool {
	digits, is := strings.CutPrefix(t.Text, "BOUND ")
	n, err := strconv.Atoi(digits)
	return is && err == nil && n >= 1 && n <= 65536 && strconv.Itoa(n) == digits
}

// item is a row of a rule that is read up to a symbol, from a word on.
type item struct {
	name           string
	row, dot, from int
}

// items is those that can be at a word (Earley's sets), and the words that they wait for.
type items struct {
	list  []item
	known map[item]bool
	waits map[string]bool
}

func newItems() *items { return &items{known: map[item]bool{}, waits: map[string]bool{}} }

func (s *items) add(x item) {
	if !s.known[x] {
		s.known[x] = true
		s.list = append(s.list, x)
	}
}

// fill adds all that follows from the items of the last set.
func (g *grammar) fill(sets []*items) {
	here := len(sets) - 1
	s := sets[here]
	// Rules that end where they begin may end ahead of those that wait for them.
	for before := -1; before < len(s.list); {
		before = len(s.list)
		for i := 0; i < len(s.list); i++ {
			x := s.list[i]
			row := g.rules[x.name][x.row]
			if x.dot == len(row) {
				for _, y := range sets[x.from].list {
					if over := g.rules[y.name][y.row]; y.dot < len(over) && over[y.dot] == x.name {
						y.dot++
						s.add(y)
					}
				}
				continue
			}
			next := row[x.dot]
			if g.rules[next] == nil {
				s.waits[next] = true
				continue
			}
			for n := range g.rules[next] {
				s.add(item{name: next, row: n, from: here})
			}
		}
	}
}

// reading is how far words are read by a rule: how many can stand there, whether they may end there, and what may stand behind them.
type reading struct {
	taken int
	whole bool
	waits map[string]bool
}

func (g *grammar) read(rule string, l []api.Token) reading {
	sets := []*items{newItems()}
	for n := range g.rules[rule] {
		sets[0].add(item{name: rule, row: n})
	}
	g.fill(sets)
	for _, t := range l {
		after := newItems()
		for _, w := range symbols(t) {
			for _, x := range sets[len(sets)-1].list {
				if row := g.rules[x.name][x.row]; x.dot < len(row) && row[x.dot] == w {
					x.dot++
					after.add(x)
				}
			}
		}
		if len(after.list) == 0 {
			break
		}
		sets = append(sets, after)
		g.fill(sets)
	}
	last := sets[len(sets)-1]
	got := reading{taken: len(sets) - 1, waits: last.waits}
	for n, row := range g.rules[rule] {
		got.whole = got.whole || last.known[item{name: rule, row: n, dot: len(row)}]
	}
	return got
}

// fault is the first one of words that are read by a rule, depth aside; nil, if there is none.
func (g *grammar) fault(rule string, l []api.Token, end int) error {
	got := g.read(rule, l)
	if got.taken == len(l) {
		if got.whole {
			return nil
		}
		return api.Fault{At: end, Why: api.ErrToken}
	}
	t := l[got.taken]
	isLoop := t.Kind == api.TokPragma && !isBound(t) || t.Kind == api.TokWord && (t.Text == "WHILE" || t.Text == "REPEAT")
	if isLoop && got.waits["pragma"] {
		return api.Fault{At: t.At, Why: api.ErrBound}
	}
	return api.Fault{At: t.At, Why: api.ErrToken}
}
