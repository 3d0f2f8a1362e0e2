package sfc_test

import (
	"errors"
	"reflect"
	"slices"
	"strconv"
	"strings"
	"testing"

	"relay/api"
	"relay/lex"
	"relay/sfc"
	"relay/st"
)

func name(at int, s string) api.Expr { return api.Expr{Op: api.ExName, At: at, Name: s} }

func number(at int, n uint64) api.Expr {
	return api.Expr{Op: api.ExLit, At: at, Value: api.Value{Bits: n}}
}

func pair(op, at int, a, b api.Expr) api.Expr {
	return api.Expr{Op: op, At: at, Kids: []api.Expr{a, b}}
}

// P8.1: the chapter's examples, whole.
func TestExamples(t *testing.T) {
	for src, want := range map[string]api.Chart{
		"":       {},
		" (**) ": {},
		"INITIAL_STEP a: x(N); END_STEP STEP b: y(L, T#5s); END_STEP TRANSITION FROM a TO b := go; END_TRANSITION": {
			Steps: []api.Step{{At: 13, Name: "A", Initial: true, Links: []api.Link{{At: 16, Qual: "N", Name: "X"}}}, {At: 36, Name: "B", Links: []api.Link{{At: 39, Qual: "L", Time: 5000000000, Name: "Y"}}}},
			Trans: []api.Trans{{At: 60, From: []string{"A"}, To: []string{"B"}, Cond: name(86, "GO")}},
		},
		"TRANSITION t FROM (a, b) TO c := x AND y; END_TRANSITION": {
			Trans: []api.Trans{{Name: "T", From: []string{"A", "B"}, To: []string{"C"}, Cond: pair(api.OpAnd, 35, name(33, "X"), name(39, "Y"))}},
		},
		"ACTION x: n := n + 1; END_ACTION": {
			Actions: []api.Action{{At: 7, Name: "X", Body: []api.Stmt{{Op: api.StSet, At: 10, Exprs: []api.Expr{name(10, "N"), pair(api.OpAdd, 17, name(15, "N"), number(19, 1))}}}}},
		},
		"action x:end_action step x:end_step transition x from(x)to(x):=x;end_transition initial_step y:n(n);end_step": {
			Steps:   []api.Step{{At: 25, Name: "X"}, {At: 93, Name: "Y", Initial: true, Links: []api.Link{{At: 95, Qual: "N", Name: "N"}}}},
			Trans:   []api.Trans{{At: 36, Name: "X", From: []string{"X"}, To: []string{"X"}, Cond: name(63, "X")}},
			Actions: []api.Action{{At: 7, Name: "X"}},
		},
	} {
		if got := parsed(t, src); !reflect.DeepEqual(got, want) {
			t.Errorf("%q:\n got %+v\nwant %+v", src, got, want)
		}
	}
}

// P8.1, P8.3, P8.4: just what was written, with places; its form; and back.
func TestThereAndBack(t *testing.T) {
	for seed := range int64(3000) {
		m := newMaker(seed, "S")
		src := m.write(int(seed % 9))
		got := parsed(t, src)
		text := sfc.Print(got)
		if !reflect.DeepEqual(got, m.chart) || text != m.form() {
			t.Fatalf("%q:\n got %+v\nwant %+v\n got %q\nwant %q", src, got, m.chart, text, m.form())
		}
		back := parsed(t, text)
		if sfc.Print(back) != text || !sfc.Same(back, got) || !reflect.DeepEqual(placeless(back), placeless(got)) {
			t.Fatalf("%q: %+v", text, back)
		}
	}
}

// P8.5: part by part.
func TestPartByPart(t *testing.T) {
	for seed := range int64(500) {
		a, b := newMaker(seed, "A"), newMaker(seed+100000, "B")
		one, two := a.write(int(seed%6)), b.write(int(seed%5))
		want := api.Chart{Steps: append(a.chart.Steps, b.chart.Steps...), Trans: append(a.chart.Trans, b.chart.Trans...), Actions: append(a.chart.Actions, b.chart.Actions...)}
		if got := parsed(t, one+two); !reflect.DeepEqual(placeless(got), placeless(want)) {
			t.Fatalf("%q %q", one, two)
		}
	}
	for _, both := range [][2]string{{"STEP a: END_STEP ", "STEP a: END_STEP"}, {"ACTION a: END_ACTION ", "ACTION a: END_ACTION"}} {
		if c, err := sfc.Parse(both[0] + both[1]); !isZero(c) || !errors.Is(err, api.ErrTwice) {
			t.Error(c, err)
		}
	}
}

// P8.6: case and blanks play no part.
func TestCaseAndBlanks(t *testing.T) {
	for seed := range int64(500) {
		m := newMaker(seed, "S")
		src := m.write(int(seed % 7))
		words, err := lex.Scan(src)
		if err != nil {
			t.Fatal(err)
		}
		var l []string
		for _, w := range words {
			l = append(l, src[w.At:w.End])
		}
		for _, s := range []string{strings.ToUpper(src), strings.ToLower(src), strings.Join(l, " "), strings.Join(l, "\n(* STEP *)\t")} {
			got := parsed(t, s)
			if !sfc.Same(got, m.chart) || !reflect.DeepEqual(placeless(got), placeless(parsed(t, src))) {
				t.Fatalf("%q", s)
			}
		}
	}
}

// faults cuts the mark ¦ out of texts: there the fault must be told, behind what has none, too.
func faults(t *testing.T, why api.Errno, list ...string) {
	t.Helper()
	for _, s := range list {
		before, behind, ok := strings.Cut(s, "¦")
		if !ok {
			t.Fatal(s)
		}
		for _, first := range []string{"", "STEP z: z(N); END_STEP TRANSITION FROM z TO z := z; END_TRANSITION ACTION z: z := z; END_ACTION\n"} {
			c, err := sfc.Parse(first + before + behind)
			if !isZero(c) || err != error(api.Fault{At: len(first + before), Why: why}) || !errors.Is(err, why) {
				t.Errorf("%.300q: %v %v", first+s, c, err)
			}
		}
	}
}

// P8.1: words that can't stand there, and words that end too early.
func TestTokenFaults(t *testing.T) {
	faults(t, api.ErrToken,
		"¦a", "¦;", "¦END_STEP", "¦END_ACTION", "¦END_TRANSITION", "¦5", "¦{BOUND 3}", "¦FROM", "¦n := 1;", "¦RUNG", "¦'x'", "¦%IX0.0",
		"STEP¦", "STEP ¦:", "STEP ¦5", "STEP ¦STEP", "STEP ¦'a'", "STEP a¦", "STEP a ¦x(N);", "STEP a ¦:= b", "STEP a ¦END_STEP", "STEP a:¦", "STEP a: ¦;", "STEP a: ¦5", "STEP a: ¦STEP b", "STEP a: ¦END_ACTION", "STEP a: END_STEP ¦;", "STEP a: END_STEP ¦b", "STEP a: ¦IF", "STEP a: ¦(N)", "INITIAL_STEP¦", "INITIAL_STEP ¦STEP a:", "INITIAL_STEP a¦;", "STEP a: ¦{x} END_STEP", "STEP a¦, b: END_STEP",
		"STEP a: x¦", "STEP a: x¦;", "STEP a: x ¦N;", "STEP a: x ¦:= N;", "STEP a: x¦.y(N);", "STEP a: x(¦", "STEP a: x(¦);", "STEP a: x(¦5);", "STEP a: x(¦T#5s);", "STEP a: x(¦IF);", "STEP a: x(¦'N');", "STEP a: x(¦, N);", "STEP a: x(N¦", "STEP a: x(N¦;", "STEP a: x(N ¦N);", "STEP a: x(N ¦:= N);", "STEP a: x(N)¦", "STEP a: x(N) ¦y(N);", "STEP a: x(N) ¦END_STEP", "STEP a: x(N)¦);", "STEP a: x(N);¦",
		"STEP a: x(N,¦", "STEP a: x(N, ¦);", "STEP a: x(N, ¦t);", "STEP a: x(N, ¦-5);", "STEP a: x(L¦", "STEP a: x(L ¦;", "STEP a: x(L ¦T#5s);", "STEP a: x(L,¦", "STEP a: x(L, ¦);", "STEP a: x(L, ¦t);", "STEP a: x(L, ¦-T#5s);", "STEP a: x(L, ¦(T#5s));", "STEP a: x(L, T#5s¦", "STEP a: x(L, T#5s¦;", "STEP a: x(L, T#5s¦, T#5s);", "STEP a: x(L, T#5s ¦+ T#5s);", "STEP a: x(L, ¦, T#5s);", "STEP a: x(L, ¦INT);", "STEP a: x(L, ¦%MW0);", "STEP a: x(L, ¦{x});",
		"TRANSITION¦", "TRANSITION ¦5", "TRANSITION ¦:", "TRANSITION ¦TO", "TRANSITION ¦STEP", "TRANSITION t¦", "TRANSITION t ¦u", "TRANSITION t ¦: FROM", "TRANSITION t ¦TO", "TRANSITION FROM¦", "TRANSITION FROM ¦TO", "TRANSITION FROM ¦5", "TRANSITION FROM ¦;", "TRANSITION FROM a¦", "TRANSITION FROM a ¦b", "TRANSITION FROM a¦, b TO", "TRANSITION FROM a ¦:= b", "TRANSITION FROM a¦.x TO", "TRANSITION FROM (¦", "TRANSITION FROM (¦)", "TRANSITION FROM (¦, a)", "TRANSITION FROM (a¦", "TRANSITION FROM (a ¦b)", "TRANSITION FROM (a,¦", "TRANSITION FROM (a, ¦)", "TRANSITION FROM (a, b ¦TO", "TRANSITION FROM (a)¦", "TRANSITION FROM (a) ¦(b)", "TRANSITION FROM (a)¦) TO", "TRANSITION FROM (¦(a)) TO", "TRANSITION FROM (¦5) TO",
		"TRANSITION FROM a TO¦", "TRANSITION FROM a TO ¦:=", "TRANSITION FROM a TO ¦5", "TRANSITION FROM a TO b¦", "TRANSITION FROM a TO b ¦;", "TRANSITION FROM a TO b ¦= c", "TRANSITION FROM a TO b¦, c :=", "TRANSITION FROM a TO b ¦TO c", "TRANSITION FROM a TO (b ¦:=", "TRANSITION FROM a TO (b, c) ¦d", "TRANSITION FROM a TO b :=¦", "TRANSITION FROM a TO b := ¦;", "TRANSITION FROM a TO b := c¦", "TRANSITION FROM a TO b := c ¦d;", "TRANSITION FROM a TO b := c ¦END_TRANSITION", "TRANSITION FROM a TO b := c ¦:= d;", "TRANSITION FROM a TO b := c +¦", "TRANSITION FROM a TO b := c + ¦;", "TRANSITION FROM a TO b := (c¦;", "TRANSITION FROM a TO b := c¦);", "TRANSITION FROM a TO b := f(q ¦=> c);", "TRANSITION FROM a TO b := ¦%IX0.0;", "TRANSITION FROM a TO b := ¦{BOUND 3} c;", "TRANSITION FROM a TO b := c;¦", "TRANSITION FROM a TO b := c; ¦;", "TRANSITION FROM a TO b := c; ¦d", "TRANSITION FROM a TO b := c; ¦END_STEP", "TRANSITION FROM a TO b := c; END_TRANSITION¦;", "TRANSITION FROM a TO b := c; ¦TRANSITION", "TRANSITION FROM a TO b := ¦WHILE",
		"ACTION¦", "ACTION ¦:", "ACTION ¦5", "ACTION ¦ACTION", "ACTION x¦", "ACTION x ¦n := 1; END_ACTION", "ACTION x¦; END_ACTION", "ACTION x ¦:= END_ACTION", "ACTION x ¦END_ACTION", "ACTION x: n ¦END_ACTION", "ACTION x: n := ¦END_ACTION", "ACTION x: n := 1 ¦END_ACTION", "ACTION x: IF a THEN ¦END_ACTION", "ACTION x: ¦5 END_ACTION", "ACTION x: ; ¦END_STEP END_ACTION", "ACTION x: ¦STEP a: END_STEP END_ACTION", "ACTION x: ; ¦ACTION y: ; END_ACTION", "ACTION x: {BOUND 3} ¦n := 1; END_ACTION", "ACTION x: END_ACTION¦;", "ACTION x: END_ACTION ¦END_ACTION", "ACTION x: t(q => ¦5); END_ACTION", "ACTION x: ¦TRANSITION END_ACTION", "ACTION x: a := b ¦c; END_ACTION",
	)
}

// P8.1: actions without an END_ACTION: it is missing at the end, and what is wrong ahead of that is told first.
func TestOpenActions(t *testing.T) {
	faults(t, api.ErrToken, "ACTION x:¦", "ACTION x: ¦", "ACTION x: n := 1;¦", "ACTION x: n := 1 ¦", "ACTION x: n¦", "ACTION x: IF a THEN b := 1;¦", "ACTION x: {BOUND 3} WHILE a DO¦", "ACTION x: {BOUND 3}¦", "ACTION x: (* END_ACTION *)¦", "ACTION x: ; END_ACTION ACTION y: ;¦", "ACTION x: t(¦")
	faults(t, api.ErrToken, "ACTION x ¦;", "ACTION ¦: ;", "STEP ¦ACTION x: ;", "TRANSITION ¦ACTION x:")
	faults(t, api.ErrToken, "ACTION x:¦ON", "ACTION x: ¦5;", "ACTION x: n := ¦; STEP", "ACTION x: n := 1; ¦STEP", "ACTION x: END_ACTIONS¦;", "ACTION x: ; ¦ACTION y: ;", "ACTION x: ¦STEP a: END_STEP ", "ACTION x: ¦"+strings.Repeat("-", 40), "ACTION x: ; END_ACTION ACTION y: ¦END_STEP", "INITIAL_STEP b:y(D,T#1s);q(P);END_STEP\nACTION y:¦ON", "ACTION x: IF a THEN ; ¦END_CASE", "ACTION x: {BOUND 3} ¦n := 1;", "ACTION x: ; ¦TRANSITION FROM a TO a := b; END_TRANSITION")
	faults(t, api.ErrBound, "ACTION x: ¦WHILE a DO", "ACTION x: ¦WHILE a DO END_WHILE;", "ACTION x: ; ¦{x}", "ACTION x: n := 1; ¦{BOUND 0} REPEAT ON")
	faults(t, api.ErrDeep, "ACTION x: n := "+strings.Repeat("-", api.MaxDeep)+"¦-ON", "ACTION x: "+strings.Repeat("IF a THEN ", api.MaxDeep)+"¦IF")
}

// P8.1: st's faults, at their places.
func TestFaultsBelow(t *testing.T) {
	deep := strings.Repeat("(", api.MaxDeep)
	faults(t, api.ErrDeep, "TRANSITION FROM a TO b := "+deep+"¦(c", "TRANSITION FROM a TO b := "+deep+"¦NOT 5;", "ACTION x: n := "+deep+"¦-1; END_ACTION", "ACTION x: "+strings.Repeat("IF a THEN ", api.MaxDeep)+"¦IF END_ACTION")
	faults(t, api.ErrBound, "ACTION x: ¦WHILE a DO END_WHILE; END_ACTION", "ACTION x: n := 1; ¦REPEAT END_ACTION", "ACTION x: ¦{x} END_ACTION", "ACTION x: ¦{BOUND 0} WHILE END_ACTION")
	parsed(t, "TRANSITION FROM a TO b := "+deep+"c"+strings.Repeat(")", api.MaxDeep)+"; END_TRANSITION ACTION x: n := "+deep+"c"+strings.Repeat(")", api.MaxDeep)+"; END_ACTION")
	for s, why := range map[string]api.Errno{"STEP ; ¦#": api.ErrByte, "5 ¦12a": api.ErrNumber, "ACTION x: ¦'b END_ACTION": api.ErrOpen, "; ¦(* a": api.ErrOpen, "STEP ¦abcdefghijklmnopqrstuvwxy": api.ErrName, "STEP a: x(Q, ¦T#5x);": api.ErrNumber} {
		faults(t, why, s)
	}
	if c, err := sfc.Parse(strings.Repeat("; ", api.MaxTokens) + ";"); !isZero(c) || err != error(api.Fault{At: 2 * api.MaxTokens, Why: api.ErrLong}) {
		t.Error(err)
	}
	if c, err := sfc.Parse(strings.Repeat(" ", api.MaxSource+1)); !isZero(c) || err != error(api.Fault{Why: api.ErrLong}) {
		t.Error(err)
	}
}

// P8.1: each qualifier, with and without its time.
func TestQualifiers(t *testing.T) {
	for _, q := range strings.Fields("N S R P P0 P1") {
		for _, s := range []string{q, strings.ToLower(q)} {
			if c := parsed(t, "STEP a: x("+s+"); END_STEP"); !reflect.DeepEqual(c.Steps[0].Links, []api.Link{{At: 8, Qual: q, Name: "X"}}) {
				t.Error(q, c)
			}
			faults(t, api.ErrQual, "STEP a: x("+s+", ¦T#1s); END_STEP", "STEP a: x("+s+", ¦5", "STEP a: x("+s+", ¦T#-1s;", "STEP a: x("+s+", ¦T#0s", "STEP a: x("+s+", ¦'x'")
		}
	}
	for _, q := range strings.Fields("L D SD DS SL") {
		for _, s := range []string{q, strings.ToLower(q)} {
			for _, span := range spans {
				if c := parsed(t, "STEP a: x("+s+", "+span.word+"); END_STEP"); !reflect.DeepEqual(c.Steps[0].Links, []api.Link{{At: 8, Qual: q, Time: span.time, Name: "X"}}) {
					t.Error(q, c)
				}
			}
			faults(t, api.ErrQual, "STEP a: x("+s+"¦); END_STEP", "STEP a: x("+s+" ¦)", "STEP a: x("+s+", ¦5", "STEP a: x("+s+", ¦INT#5);", "STEP a: x("+s+", ¦TRUE", "STEP a: x("+s+", ¦1.5)", "STEP a: x("+s+", ¦'T#1s')", "STEP a: x("+s+", ¦D#2000-01-01)", "STEP a: x("+s+", ¦TOD#00:00:01)", "STEP a: x("+s+", ¦DT#2000-01-01-00:00:00)", "STEP a: x("+s+", ¦T#-1ns) 5", "STEP a: x("+s+", ¦T#-106751d)", "STEP a: x("+s+", ¦LWORD#5)", "STEP a: x("+s+", ¦16#FF)")
		}
	}
	faults(t, api.ErrQual, "STEP a: x(¦Q); END_STEP", "STEP a: x(N); y(¦Q, T#1s", "STEP a: x(¦NN", "STEP a: x(¦P2", "STEP a: x(¦LD)", "STEP a: x(¦S0, 5)", "STEP a: x(¦T)", "STEP a: x(¦SS ;", "STEP a: x(¦DL)", "STEP a: x(¦N_)", "STEP a: x(¦P00)")
}

// numbered is texts with numbers for the %.
func numbered(text string, count int) string {
	var b strings.Builder
	for i := range count {
		b.WriteString(strings.ReplaceAll(text, "%", strconv.Itoa(i)))
	}
	return b.String()
}

func names(count int) string { return strings.TrimSuffix(numbered("s%, ", count), ", ") }

// P8.1: as many as can be, and one more; of one name ErrFull comes ahead of ErrTwice.
func TestFull(t *testing.T) {
	full := func(list ...string) {
		t.Helper()
		for _, s := range list {
			before, behind, _ := strings.Cut(s, "¦")
			if c, err := sfc.Parse(before + behind); !isZero(c) || err != error(api.Fault{At: len(before), Why: api.ErrFull}) {
				t.Errorf("%q: %v", s[max(0, len(s)-60):], err)
			}
		}
	}
	steps := numbered("STEP s%: END_STEP ", api.MaxSteps)
	actions := numbered("ACTION s%: END_ACTION ", api.MaxSteps)
	trans := numbered("TRANSITION FROM a TO a := b; END_TRANSITION ", api.MaxTrans)
	links := numbered("x(N); ", api.MaxLinks)
	c := parsed(t, steps+trans+actions)
	if len(c.Steps) != api.MaxSteps || len(c.Trans) != api.MaxTrans || len(c.Actions) != api.MaxSteps {
		t.Error(c)
	}
	full(steps+"STEP ¦x: END_STEP", steps+"STEP ¦s5: END_STEP", steps+"INITIAL_STEP ¦x;", steps+"STEP ¦s0", steps+trans+actions+"STEP ¦x")
	full(actions+"ACTION ¦x: END_ACTION", actions+"ACTION ¦s5: END_ACTION", actions+"ACTION ¦x", actions+steps+trans+"ACTION ¦x:")
	full(trans+"¦TRANSITION FROM a TO a := b; END_TRANSITION", trans+"¦TRANSITION", trans+steps+actions+"¦transition 5")
	if c := parsed(t, "STEP a: "+links+"END_STEP STEP b: "+links+"END_STEP"); len(c.Steps[1].Links) != api.MaxLinks {
		t.Error(c)
	}
	full("STEP a: "+links+"¦x(N); END_STEP", "STEP a: "+links+"¦y", "STEP a: "+links+"¦y(Q)", "STEP a: "+links+"END_STEP STEP b: "+links+"¦y;")
	if c := parsed(t, "TRANSITION FROM ("+names(api.MaxLinks)+") TO ("+names(api.MaxLinks)+") := b; END_TRANSITION"); len(c.Trans[0].From) != api.MaxLinks || len(c.Trans[0].To) != api.MaxLinks {
		t.Error(c)
	}
	full("TRANSITION FROM ("+names(api.MaxLinks)+", ¦x) TO", "TRANSITION FROM ("+names(api.MaxLinks)+", ¦s0", "TRANSITION FROM a TO ("+names(api.MaxLinks)+", ¦x", "TRANSITION FROM ("+names(api.MaxLinks)+") TO ("+names(api.MaxLinks)+", ¦s7;")
	faults(t, api.ErrToken, "STEP a: "+links+"¦5", "TRANSITION FROM ("+names(api.MaxLinks)+", ¦5", "STEP a: "+links+"¦(N)")
	if _, err := sfc.Parse(steps + "STEP 5"); err != error(api.Fault{At: len(steps) + 5, Why: api.ErrToken}) {
		t.Error(err)
	}
	// One less leaves room, also for what is there already.
	if _, err := sfc.Parse(numbered("STEP s%: END_STEP ", api.MaxSteps-1) + "STEP s0"); !errors.Is(err, api.ErrTwice) {
		t.Error(err)
	}
}

// P8.1: names that are there already; steps, actions, transitions and sides know nothing of one another's.
func TestTwice(t *testing.T) {
	faults(t, api.ErrTwice,
		"STEP a: END_STEP STEP ¦a: END_STEP", "STEP a: END_STEP INITIAL_STEP ¦A", "INITIAL_STEP a: x(N); END_STEP STEP b: END_STEP STEP ¦a 5", "STEP a: END_STEP ACTION a: END_ACTION STEP ¦a:", "ACTION a: END_ACTION ACTION ¦A: END_ACTION", "ACTION a: END_ACTION ACTION b: END_ACTION ACTION ¦b 5", "TRANSITION FROM (a, ¦a) TO b", "TRANSITION FROM (a, b, ¦A ;", "TRANSITION FROM a TO (b, c, ¦b", "TRANSITION FROM (a, b) TO (a, b, ¦a",
	)
	for _, src := range []string{
		"STEP a: a(N); a(N); END_STEP ACTION a: END_ACTION TRANSITION a FROM a TO a := a; END_TRANSITION TRANSITION a FROM (a, b) TO (a, b) := a; END_TRANSITION",
		"TRANSITION FROM a TO a := a; END_TRANSITION TRANSITION FROM a TO a := a; END_TRANSITION",
	} {
		parsed(t, src)
	}
}

// A condition is what st.One takes, a body what st.Body takes.
func TestBelow(t *testing.T) {
	src := "TRANSITION FROM a TO b := c + d[1] * f(x := 2) >= e.q; END_TRANSITION"
	e, err := st.Expr(strings.Repeat(" ", 26) + src[26:len(src)-16])
	if c := parsed(t, src); err != nil || !reflect.DeepEqual(c.Trans[0].Cond, e) {
		t.Error(c, e, err)
	}
	body := strings.Join(someBodies, " ")
	l, err := st.Parse("          " + body)
	if c := parsed(t, "ACTION x: "+body+" END_ACTION"); err != nil || !reflect.DeepEqual(c.Actions[0].Body, l) {
		t.Error(c, l, err)
	}
}

// regions is the memory of all lists in a value, their spare room too.
func regions(v reflect.Value, found *[][2]uintptr) {
	switch v.Kind() {
	case reflect.Slice:
		if v.Cap() > 0 {
			from := v.Pointer()
			*found = append(*found, [2]uintptr{from, from + uintptr(v.Cap())*v.Type().Elem().Size()})
		}
		for i := range v.Len() {
			regions(v.Index(i), found)
		}
	case reflect.Struct:
		for i := range v.NumField() {
			regions(v.Field(i), found)
		}
	}
}

// What is handed in stays; what is answered is memory of its own.
func TestMemory(t *testing.T) {
	for seed := range int64(300) {
		m := newMaker(seed, "S")
		src := m.write(12)
		a, b := parsed(t, src), parsed(t, src)
		var l [][2]uintptr
		regions(reflect.ValueOf(a), &l)
		regions(reflect.ValueOf(b), &l)
		slices.SortFunc(l, func(a, b [2]uintptr) int { return slices.Compare(a[:], b[:]) })
		for i := 1; i < len(l); i++ {
			if l[i][0] < l[i-1][1] {
				t.Fatalf("%q: shared", src)
			}
		}
		sfc.Print(a)
		sfc.Same(a, b)
		if !reflect.DeepEqual(a, m.chart) || !reflect.DeepEqual(b, m.chart) {
			t.Fatalf("%q: changed", src)
		}
	}
}
