package il_test

import (
	"errors"
	"math/rand"
	"reflect"
	"slices"
	"strings"
	"testing"

	"relay/api"
	"relay/il"
	"relay/lex"
	"relay/st"
)

func parsed(t *testing.T, src string) []api.IlInstr {
	t.Helper()
	l, err := il.Parse(src)
	if err != nil {
		t.Fatalf("%.300q: %v", src, err)
	}
	return l
}

func name(at int, s string) api.Expr { return api.Expr{Op: api.ExName, At: at, Name: s} }

func number(at int, n uint64) api.Expr {
	return api.Expr{Op: api.ExLit, At: at, Value: api.Value{Bits: n}}
}

// The chapter's examples, whole.
func TestExamples(t *testing.T) {
	for src, want := range map[string]api.IlInstr{
		"L1: LD a":               {Label: "L1", Op: "LD", Args: []api.Expr{name(7, "A")}},
		"ANDN( b":                {Op: "AND", Not: true, Open: true, Args: []api.Expr{name(6, "B")}},
		"JMPCN L1":               {Op: "JMP", Cond: true, Not: true, Name: "L1"},
		")":                      {Op: ")"},
		"CAL t(IN := a, Q => q)": {Op: "CAL", Name: "T", Args: []api.Expr{name(12, "A")}, Names: []string{"IN"}, Outs: []api.Expr{name(20, "Q")}, OutNames: []string{"Q"}},
		"CAL t":                  {Op: "CAL", Name: "T"},
		"CAL t()":                {Op: "CAL", Name: "T"},
		"CAL t(a, x := 1)":       {Op: "CAL", Name: "T", Args: []api.Expr{name(6, "A"), number(14, 1)}, Names: []string{"", "X"}},
		"MAX b, 3":               {Op: "FN", Name: "MAX", Args: []api.Expr{name(4, "B"), number(7, 3)}},
		"ABS":                    {Op: "FN", Name: "ABS"},
		"L1:":                    {Label: "L1"},
		"LD:":                    {Label: "LD"},
		"LD: LD -5":              {Label: "LD", Op: "LD", Args: []api.Expr{{Op: api.OpNeg, At: 7, Kids: []api.Expr{number(8, 5)}}}},
		"L1 : )":                 {Label: "L1", Op: ")"},
		"AND(":                   {Op: "AND", Open: true},
		"& b":                    {Op: "AND", Args: []api.Expr{name(2, "B")}},
		"&(":                     {Op: "AND", Open: true},
		"ADD((5)":                {Op: "ADD", Open: true, Args: []api.Expr{number(5, 5)}},
		"LD (a)":                 {Op: "LD", Args: []api.Expr{name(4, "A")}},
		"ABS (a)":                {Op: "FN", Name: "ABS", Args: []api.Expr{name(5, "A")}},
		"ST a[1]":                {Op: "ST", Args: []api.Expr{{Op: api.ExIndex, At: 3, Name: "A", Kids: []api.Expr{number(5, 1)}}}},
		"S t.q":                  {Op: "S", Args: []api.Expr{{Op: api.ExField, At: 2, Name: "T", Field: "Q"}}},
	} {
		if got := parsed(t, src); !alike(got, []api.IlInstr{want}) {
			t.Errorf("%q:\n got %+v\nwant %+v", src, got, want)
		}
	}
}

// Each operator of the table, and what it wants; a word that is none of them is a function's name, if it is a name.
func TestOperators(t *testing.T) {
	const operand = "LD LDN ST STN S R AND ANDN OR ORN XOR XORN ADD SUB MUL DIV MOD GT GE EQ NE LE LT & "
	const plain = "NOT ) RET RETC RETCN "
	const named = "JMP JMPC JMPCN CAL CALC CALCN "
	bases := strings.Fields("LD ST S R AND OR XOR ADD SUB MUL DIV MOD GT GE EQ NE LE LT NOT JMP CAL RET")
	count := 0
	for _, base := range bases {
		for _, end := range []string{"", "N", "C", "CN", "NC", "NN"} {
			word := base + end
			in := api.IlInstr{Op: base, Cond: strings.HasPrefix(end, "C"), Not: strings.HasSuffix(end, "N")}
			has := func(list string) bool { return strings.Contains(" "+list, " "+word+" ") }
			behind := ""
			switch {
			case has(operand):
				behind, in.Args = " x", []api.Expr{name(len(word)+1, "X")}
			case has(named):
				behind, in.Name = " x", "X"
			case has(plain):
			default:
				in = api.IlInstr{Op: "FN", Name: word}
				count++
			}
			for _, src := range []string{word + behind, strings.ToLower(word) + behind} {
				if got := parsed(t, src); !alike(got, []api.IlInstr{in}) {
					t.Errorf("%q: %+v", src, got)
				}
			}
		}
	}
	if count != len(bases)*5-5-6 {
		t.Error(count)
	}
	for _, op := range strings.Fields("AND ANDN OR ORN XOR XORN ADD SUB MUL DIV MOD GT GE EQ NE LE LT &") {
		if l := parsed(t, op+"(\n"+op+" ( 5"); !l[0].Open || !l[1].Open || len(l[0].Args) != 0 || len(l[1].Args) != 1 {
			t.Error(op, l)
		}
	}
}

// P6.1, P6.3: just the instructions, with their places; their form, and back.
func TestInstructions(t *testing.T) {
	for seed := range int64(4000) {
		m := newMaker(seed)
		src := m.source(int(seed % 9))
		got := parsed(t, src)
		if !alike(got, m.list) {
			t.Fatalf("%q:\n got %+v\nwant %+v", src, got, m.list)
		}
		text := il.Print(got)
		if text != m.form.String() {
			t.Fatalf("%q:\n got %q\nwant %q", src, text, m.form.String())
		}
		back := parsed(t, text)
		if !il.Same(back, got) || !alike(placeless(back), placeless(got)) || il.Print(back) != text {
			t.Fatalf("%q: %q", src, text)
		}
	}
}

// laid is a text's words in the same lines, with other blanks between.
func laid(t *testing.T, src, line, blank string) string {
	t.Helper()
	words, err := lex.Scan(src)
	if err != nil {
		t.Fatal(src, err)
	}
	var b strings.Builder
	at := 0
	for _, w := range words {
		if strings.Contains(src[at:w.At], "\n") {
			b.WriteString(line)
		}
		at = w.At
		b.WriteString(src[w.At:w.End] + blank)
	}
	return b.String()
}

// P6.5: line by line; P6.6: case, blanks, empty lines and remarks; P6.7: a beginning.
func TestLineByLine(t *testing.T) {
	for seed := range int64(800) {
		a, b := newMaker(seed), newMaker(seed+100000)
		one, two := a.source(int(seed%5)), b.source(int(seed%7))
		both := parsed(t, one+"\n"+two)
		if !alike(placeless(both), append(placeless(a.list), placeless(b.list)...)) {
			t.Fatalf("%q %q", one, two)
		}
		for _, s := range []string{strings.ToUpper(one), strings.ToLower(one), laid(t, one, "\n", " "), laid(t, one, " // x\n\n(* y\nz *)\n", "\t(* LD *) "), "\n" + laid(t, one, "\r\n", "  ")} {
			if !alike(placeless(parsed(t, s)), placeless(a.list)) {
				t.Fatalf("%q", s)
			}
		}
		for i := range one {
			if one[i] != '\n' || strings.Count(one[:i], "(*") > strings.Count(one[:i], "*)") {
				continue
			}
			l := parsed(t, one[:i])
			if more := parsed(t, one[:i+1]); !alike(l, more) || !alike(l, a.list[:len(l)]) {
				t.Fatalf("%q", one[:i])
			}
		}
	}
}

// fault cuts the mark ¦ out of a text: there the fault must be told, behind lines that have none, too.
func fault(t *testing.T, marked string, why api.Errno) {
	t.Helper()
	ahead, behind, ok := strings.Cut(marked, "¦")
	if !ok {
		t.Fatal(marked)
	}
	for _, first := range []string{"", "LD a\n(*\n*)L: ST b // c\n"} {
		l, err := il.Parse(first + ahead + behind)
		if len(l) != 0 || err != error(api.Fault{At: len(first + ahead), Why: why}) || !errors.Is(err, why) {
			t.Errorf("%.300q: %v %v", marked, l, err)
		}
	}
	l, err := il.Parse(ahead + behind + "\n5\nLD a")
	if len(l) != 0 || err != error(api.Fault{At: len(ahead), Why: why}) {
		t.Errorf("%.300q: %v %v", marked, l, err)
	}
}

// P6.1: faults and their places.
func TestFaults(t *testing.T) {
	for _, s := range []string{
		"LD a ¦b", "ST ¦3", "¦5", "LD ¦a + b", "¦TRUE", "¦INT#5", "¦'a'", "¦1.5", "¦%IX0.0", "¦{x}", "¦{BOUND 3}", "¦IF", "¦INT", "¦TO a", "¦(", "¦( a", "¦:", "¦: LD a", "¦:= a", "¦+ a", "¦-5", "¦,", "¦;", "¦..", "¦VAR", "¦[", "¦!", "¦=",
		"L1: ¦5", "L1: ¦:", "L1: ¦IF", "L1: ¦(", "L1: ¦{x}", "L1: ¦;",
		"LD a¦, b", "LD a ¦;", "LD a¦)", "LD 5 ¦5", "LD a ¦{x}", "LD a ¦:= b", "LD a[1]¦[2]", "LD a.b¦.c", "LD ¦f(x)", "LD ¦NOT a", "LD ¦-a", "LD ¦- -5", "LD ¦(a + b)", "LD ¦a AND b", "LD ¦a = 5", "LDN ¦f()",
		"ST ¦-5", "ST ¦f(x)", "ST ¦a + b", "ST ¦(5)", "ST a ¦b", "ST ¦NOT a", "STN ¦5", "S ¦5", "R ¦TRUE", "S a¦, b", "R ¦f()", "S a ¦:",
		"AND ¦f(x)", "AND a ¦b", "AND( a ¦b", "AND( a¦)", "AND (a¦)", "AND(a¦, b", "AND( ¦a + b", "AND( ¦NOT b", "AND ¦a OR b", "OR a¦)", "ADD ¦-a", "MOD ¦a MOD b", "& ¦a & b", "GT( ¦f(a)", "LT 5 ¦5", "EQ ¦a = b",
		"NOT ¦a", "NOT ¦(", "NOT ¦NOT", "NOT ¦)", ") ¦a", ") ¦)", ") ¦AND", "RET ¦a", "RETC ¦5", "RETCN ¦L1", "RET ¦(",
		"JMP¦", "JMPC¦", "JMPCN¦", "JMP ¦5", "JMP ¦IF", "JMP ¦(", "JMP ¦{x}", "JMP ¦TRUE", "JMP L1 ¦L2", "JMP L1¦:", "JMP L1¦, L2", "JMP L1¦.a", "JMPC L1 ¦5",
		"CAL¦", "CALC¦", "CALCN¦", "CAL ¦5", "CAL ¦(a)", "CAL ¦INT", "CAL t ¦u", "CAL t¦, u", "CAL t ¦:= 5", "CAL t¦.q", "CAL t¦[1]", "CAL t ¦;", "CAL ¦t(a);", "CAL ¦t(); u()", "CAL ¦t(); ;", "CALC ¦t(); a := 1",
		"MAX a ¦b", "MAX a, b ¦c", "MAX ¦a + b", "MAX a, ¦b + c", "MAX a, ¦f(b)", "MAX ¦f(b), c", "MAX ¦NOT a", "MAX a ¦;", "MAX (a) ¦b", "MAX a, b ¦)", "JMPN a ¦b", "LD1 ¦-a",
	} {
		fault(t, s, api.ErrLine)
	}
	for _, s := range []string{
		"LD¦", "LDN¦", "ST¦", "S¦", "R¦", "AND¦", "XORN¦", "&¦", "ADD¦", "MOD¦", "L1: LD¦",
		"LD ¦)", "LD ¦;", "LD ¦IF", "LD ¦,", "LD ¦%IX0.0", "LD ¦{x}", "LD (¦", "LD (a¦", "LD( a¦", "LD (a ¦b)", "LD (a¦, b)", "LD a +¦", "LD a + ¦;", "LD a[¦", "LD a[1¦", "LD a.¦", "LD a.¦5", "LD f(a¦", "LD -¦", "LD NOT¦", "ST (¦", "ST ¦+ a", "S ¦:= a", "AND ¦)", "AND( ¦)", "AND(¦)", "AND((¦", "AND( (a¦", "AND ¦;", "AND¦: LD a", "OR ¦OR a",
		"MAX a,¦", "MAX a, ¦, b", "MAX ¦, a", "MAX a, b,¦", "MAX (a¦, b)", "MAX(¦)", "L1: L2¦: LD a", "MAX ¦;", "MAX a, (¦", "MAX ¦IF", "MAX ¦:= a", "MAX ¦)",
		"CAL t(¦", "CAL t(a¦", "CAL t(a,¦", "CAL t(a,¦)", "CAL t(¦,)", "CAL t(a ¦b)", "CAL t(a)¦)", "CAL t(a) ¦b", "CAL t(a) ¦:= b", "CAL t(q => ¦5)", "CAL t(f(q ¦=> a))", "CAL t(x := ¦)", "CAL t(a); ¦5", "CAL t(a); IF b THEN¦", "CAL t() ¦u()", "CALCN t(¦:)",
	} {
		fault(t, s, api.ErrToken)
	}
	fault(t, "CAL t(); ¦WHILE", api.ErrBound)
	fault(t, "CAL t(); ¦{x}", api.ErrBound)
}

// P6.1: a line's words are its own: they end where the line does.
func TestLines(t *testing.T) {
	for _, s := range []string{"LD¦\na", "LD¦ (* x\n *) a", "LD¦ // a\na", "MAX a,¦\nb", "MAX a,¦(*\n*)b", "LD (a¦\n)", "LD a +¦\nb", "CAL t(¦\n)", "CAL t(a¦ (*\n\n*) )", "LD -¦\n5", "LD a.¦\nb", "AND((a¦\n)", "LD ¦{a\nb} c"} {
		fault(t, s, api.ErrToken)
	}
	for _, s := range []string{"JMP¦\nL1", "CAL¦ (*\n*) t", "L1\n¦: LD a", "L1 (*\n*) ¦: LD a", "CAL t\n¦(a)", "LD a\n¦, b", "LD a\n¦+ b", "¦{a\nb} LD c", "¦(a\n)"} {
		fault(t, s, api.ErrLine)
	}
	for src, want := range map[string]int{
		"": 0, "\n\n": 0, " (* LD a *) ": 0, "// LD a": 0, "\r\n \t": 0,
		"AND(\na": 2, "AND( (*\n*) b": 2, "ABS\na": 2, "CAL t\nu": 2, "L1:\nLD a": 2, "L1: (*\n*) LD a": 2, "LD (* x *) a": 1, "LD a // b\n// c\n\nST b": 2, "LD a\r\nST b\r\n": 2, "MAX\na, b": 2, "JMP L\nL:": 2, "LD a\n\n\n)": 2,
	} {
		if l, err := il.Parse(src); (err != nil) != (src == "MAX\na, b") || len(l) != want && err == nil {
			t.Errorf("%q: %v %v", src, l, err)
		}
	}
}

// P6.1: MaxLines instructions and one more; ErrFull comes ahead of what is wrong there.
func TestFull(t *testing.T) {
	all := strings.Repeat("NOT\n\n", api.MaxLines-1) + "L:\n"
	if l := parsed(t, all); len(l) != api.MaxLines || l[api.MaxLines-1].Label != "L" {
		t.Error(len(l))
	}
	for _, last := range []string{"NOT", "5", "L:", "LD", ")", "{x}", "LD a\n5"} {
		if l, err := il.Parse(all + " " + last); len(l) != 0 || err != error(api.Fault{At: len(all) + 1, Why: api.ErrFull}) {
			t.Errorf("%q: %v", last, err)
		}
	}
	if l := parsed(t, all+"// x\n(* NOT *)\n"); len(l) != api.MaxLines {
		t.Error(len(l))
	}
	if _, err := il.Parse(strings.Repeat("NOT\n", 9) + "5\n" + all); err != error(api.Fault{At: 36, Why: api.ErrLine}) {
		t.Error(err)
	}
}

// P6.1: lex's faults come first, wherever they are; st's depth is one line's.
func TestFaultsBelow(t *testing.T) {
	for src, want := range map[string]api.Fault{
		"5\n#": {At: 2, Why: api.ErrByte}, "LD 'a": {At: 3, Why: api.ErrOpen}, "LD 12a": {At: 3, Why: api.ErrNumber}, "5 (*": {At: 2, Why: api.ErrOpen},
		strings.Repeat(" ", api.MaxSource+1): {Why: api.ErrLong}, strings.Repeat("LD ", api.MaxTokens) + "a": {At: 3 * api.MaxTokens, Why: api.ErrLong},
		"LD " + strings.Repeat("(", api.MaxDeep+1):     {At: 3 + api.MaxDeep, Why: api.ErrDeep},
		"AND(" + strings.Repeat("(", api.MaxDeep+1):    {At: 4 + api.MaxDeep, Why: api.ErrDeep},
		"CAL t(" + strings.Repeat("-", api.MaxDeep):    {At: 5 + api.MaxDeep, Why: api.ErrDeep},
		"LD " + strings.Repeat("a[", api.MaxDeep+1):    {At: 4 + 2*api.MaxDeep, Why: api.ErrDeep},
		"MAX a, " + strings.Repeat("(", api.MaxDeep+1): {At: 7 + api.MaxDeep, Why: api.ErrDeep},
	} {
		if l, err := il.Parse(src); len(l) != 0 || err != error(want) {
			t.Errorf("%.50q: %v, wanted %v", src, err, want)
		}
	}
	inner := strings.Repeat("(", api.MaxDeep) + "a" + strings.Repeat(")", api.MaxDeep)
	parsed(t, "LD "+inner+"\nAND("+inner+"\nMAX "+inner+", "+inner+"\nCAL t("+inner[1:len(inner)-1]+")")
}

// Every text is taken, or refused with one fault at a word's place or a line's end; a line by itself has the same fault.
func TestBroken(t *testing.T) {
	r := rand.New(rand.NewSource(1))
	words := strings.Fields("a b 5 INT#7 TRUE {X} %QX0.0 := => ( ) [ ] , ; : . & + - NOT AND IF LD ST S MAX CAL JMP RET t")
	refused := 0
	for seed := range int64(6000) {
		m := newMaker(seed % 1000)
		src := m.source(1)
		l, _ := lex.Scan(src)
		i := r.Intn(len(l))
		word := words[r.Intn(len(words))]
		if r.Intn(3) == 0 {
			word = ""
		}
		src = src[:l[i].At] + " " + word + " " + src[l[i].End:]
		if r.Intn(3) == 0 {
			src = src[:l[i].At] + " " + word
		}
		got, err := il.Parse(src)
		more, again := il.Parse("NOT\n" + src + "\nRET")
		if err == nil {
			if again != nil || !alike(placeless(more[1:len(more)-1]), placeless(got)) {
				t.Fatalf("%q: %v", src, again)
			}
			continue
		}
		refused++
		f, ok := err.(api.Fault)
		if !ok || len(got) != 0 || again != error(api.Fault{At: f.At + 4, Why: f.Why}) {
			t.Fatalf("%q: %v %v", src, err, again)
		}
		l, _ = lex.Scan(src)
		if !slices.ContainsFunc(l, func(w api.Token) bool { return w.At == f.At || w.End == f.At }) {
			t.Fatalf("%q: %v", src, err)
		}
	}
	if refused < 2000 {
		t.Error(refused)
	}
}

// An operand is what st.One takes; arguments are what st.Body takes.
func TestBelow(t *testing.T) {
	src := "CAL t(a + b, x := NOT c, q => d[1])"
	l, err := st.Parse(strings.Repeat(" ", 4) + src[4:] + ";")
	in := parsed(t, src)[0]
	if err != nil || !reflect.DeepEqual(in.Args, l[0].Exprs) || !reflect.DeepEqual(in.Names, l[0].Names) || !reflect.DeepEqual(in.Outs, l[0].Outs) || !reflect.DeepEqual(in.OutNames, l[0].OutNames) {
		t.Error(in, l, err)
	}
}
