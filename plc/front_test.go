package plc_test

import (
	"slices"
	"strings"
	"testing"

	"relay/api"
	"relay/plc"
)

// P24.1, step 1: what decl says, of the first source that has a fault.
func TestDeclarationsAtFault(t *testing.T) {
	checkFaults(t, []string{"PROGRAM ^1"}, api.ErrToken)
	checkFaults(t, []string{plain, "", "PROGRAM ^p END_PROGRAM"}, api.ErrTwice)
	checkFaults(t, []string{plain + config, "FUNCTION f : INT VAR a : ^BOOL (0..1); END_VAR END_FUNCTION", "?"}, api.ErrSpec)
	checkFaults(t, []string{plain + config + " ^?"}, api.ErrByte)
	checkFaults(t, []string{"PROGRAM p^"}, api.ErrToken)
	// A body's words are read here, too.
	checkFaults(t, []string{"PROGRAM p a := ^12b; END_PROGRAM"}, api.ErrNumber)
	checkFaults(t, []string{config + " " + plain + strings.Replace(config, "c RES", "^c RES", 1)}, api.ErrTwice)
}

// P24.1, step 1: so many sources, and one more.
func TestHowManySources(t *testing.T) {
	sources := append([]string{plain + config}, make([]string, api.MaxSources-1)...)
	compiled(t, sources...)
	m, faults := plc.Compile(append(sources, ""))
	if want := []api.Diag{diag(api.MaxSources, 0, api.ErrLong)}; !slices.Equal(faults, want) || !isEmptyImage(m) {
		t.Error(faults)
	}
	checkFaults(t, []string{plain, "^" + strings.Repeat(" ", api.MaxSource+1)}, api.ErrLong)
	compiled(t, plain+config, strings.Repeat(" ", api.MaxSource))
}

// P24.1, step 2: faults of bodies in each language, of those who read them and of those who turn them, at their places in the source.
func TestBodiesAtFault(t *testing.T) {
	for _, x := range []struct {
		body string
		why  api.Errno
	}{
		{" a := ^; b := ; ", api.ErrToken}, {" a := b ^", api.ErrToken}, {"{ST} ^RUNG ", api.ErrToken}, {"{ST}^WHILE a DO END_WHILE; ", api.ErrBound}, {" ^{BOUND 0} ", api.ErrBound},
		{" a := " + strings.Repeat("(", api.MaxDeep) + "^(b ", api.ErrDeep},
		{"{IL}LD a ^b\n", api.ErrLine}, {"{IL}\n LD a\n^5 ", api.ErrLine}, {"{IL} LD^ ", api.ErrToken}, {"{IL}\nLD a\nCAL t(a := ^) ", api.ErrToken},
		{"{IL} ^ADD b ", api.ErrAcc}, {"{IL}\nLD a\n^l: ST a ", api.ErrAcc}, {"{IL}\nLD a\n^) ", api.ErrBrace}, {"{IL}\nLD a\n^AND( b\n", api.ErrBrace},
		{"{LD} RUNG a => ^; ", api.ErrToken}, {"{LD}\nRUNG a\n^", api.ErrToken}, {"{LD} ^a := b; ", api.ErrToken}, {"{LD} RUNG " + strings.Repeat("[ ", api.MaxDeep) + "^[ ", api.ErrDeep},
		{"{FBD} NETWORK n : INT := ADD(a); ^n : INT := ADD(b); END_NETWORK ", api.ErrNode}, {"{FBD} ^RUNG ", api.ErrToken},
		{"{FBD} NETWORK a => b; ^n : INT := ADD(n, 1); END_NETWORK ", api.ErrRing},
		{"{SFC} INITIAL_STEP a: x(^Q); END_STEP ", api.ErrQual}, {"{SFC} INITIAL_STEP a: END_STEP STEP ^a: END_STEP ", api.ErrTwice}, {"{SFC} INITIAL_STEP a: ^", api.ErrToken},
		// Where nothing stands the place is that where the body begins.
		{"{SFC}^  ", api.ErrStep}, {"{SFC} STEP ^a: END_STEP ", api.ErrStep}, {"{SFC} INITIAL_STEP a: END_STEP INITIAL_STEP ^b: END_STEP ", api.ErrStep},
		{"{SFC} INITIAL_STEP a: END_STEP ^TRANSITION FROM a TO b := TRUE; END_TRANSITION ", api.ErrStep},
		{"{SFC} INITIAL_STEP a: END_STEP ACTION x: a := ^; END_ACTION ", api.ErrToken},
	} {
		checkFaults(t, []string{"FUNCTION f : INT END_FUNCTION PROGRAM p VAR a, b : INT; END_VAR" + x.body + "END_PROGRAM"}, x.why)
		checkFaults(t, []string{config, "FUNCTION_BLOCK p " + x.body + "END_FUNCTION_BLOCK"}, x.why)
	}
}

// P24.1, step 2: of each source the first POU's fault, in the order of the POUs.
func TestFirstBodyOfEachSource(t *testing.T) {
	checkFaults(t, []string{"PROGRAM a ^:= END_PROGRAM PROGRAM b ) END_PROGRAM", "PROGRAM c ^] END_PROGRAM"}, api.ErrToken, api.ErrToken)
	checkFaults(t, []string{
		"", "PROGRAM a END_PROGRAM PROGRAM b {IL} ^ADD c END_PROGRAM PROGRAM c ) END_PROGRAM", plain + config, "FUNCTION f : INT {SFC}^END_FUNCTION FUNCTION g : INT {SFC}END_FUNCTION",
		"PROGRAM x ; END_PROGRAM", "FUNCTION_BLOCK y ^WHILE TRUE DO END_WHILE; END_FUNCTION_BLOCK",
	}, api.ErrAcc, api.ErrStep, api.ErrBound)
	// What comes of reading and what comes of turning are one step.
	checkFaults(t, []string{"PROGRAM a {IL}^ADD b END_PROGRAM PROGRAM b ) END_PROGRAM"}, api.ErrAcc)
	checkFaults(t, []string{"PROGRAM a ^) END_PROGRAM PROGRAM b {IL}ADD b END_PROGRAM"}, api.ErrToken)
}

// crowded is a program with so many variables, among them a hidden one for each of its rungs.
func crowded(name string, own, hidden int) string {
	return "PROGRAM " + name + " VAR q, " + many(own-2, "v#, ") + "w : BOOL; END_VAR {LD}" + many(hidden, "RUNG q => q; ") + "END_PROGRAM "
}

// P24.1, step 2: MaxVars and 192 variables, hidden ones among them, and one more.
func TestHowManyVariables(t *testing.T) {
	for _, own := range []int{2, 30, api.MaxVars} {
		most := api.MaxVars + 192 - own
		p, codes, faults := plc.Front([]string{crowded("p", own, most), config})
		if len(faults) > 0 || len(codes) != 1 || len(p.Pous[0].Vars) != api.MaxVars+192 {
			t.Error(own, faults)
		}
		checkFaults(t, []string{config, crowded("^p", own, most+1)}, api.ErrFull)
		// It is the fault of a body.
		checkFaults(t, []string{crowded("^p", own, most+1) + "PROGRAM r ) END_PROGRAM ", "PROGRAM s ^) END_PROGRAM"}, api.ErrFull, api.ErrToken)
		checkFaults(t, []string{"PROGRAM r ^) END_PROGRAM " + crowded("p", own, most+1)}, api.ErrToken)
	}
}

// P24.1, step 3: a configuration there must be.
func TestNoConfiguration(t *testing.T) {
	for _, sources := range [][]string{nil, {}, {""}, {plain}, {" (* nothing *) ", plain, ""}, {"PROGRAM p x := y; END_PROGRAM"}, {"FUNCTION_BLOCK b VAR x : b; END_VAR END_FUNCTION_BLOCK"}} {
		m, faults := plc.Compile(sources)
		_, _, front := plc.Front(sources)
		_, mean := plc.Mean(sources, nil)
		want := []api.Diag{diag(0, 0, api.ErrConfig)}
		if !isEmptyImage(m) || !slices.Equal(faults, want) || !slices.Equal(front, want) || !slices.Equal(mean, want) {
			t.Error(sources, faults, front, mean)
		}
	}
}

// P24.1, step 4: what layout says.
func TestLayoutAtFault(t *testing.T) {
	checkFaults(t, []string{"TYPE x : INT; END_TYPE", config + " PROGRAM p VAR a : INT; ^b : nothing; END_VAR END_PROGRAM"}, api.ErrBlock)
	checkFaults(t, []string{config, "FUNCTION_BLOCK ^b VAR x : b; END_VAR END_FUNCTION_BLOCK"}, api.ErrNest)
	checkFaults(t, []string{plain, "", strings.Replace(config, "q WITH t : p", "^q WITH t : r", 1)}, api.ErrUnknown)
	checkFaults(t, []string{"FUNCTION p : INT END_FUNCTION", strings.Replace(config, "q WITH", "^q WITH", 1)}, api.ErrUnknown)
	big := "PROGRAM p VAR " + many(16, "a# : ARRAY [1..256] OF INT; ") + "END_VAR END_PROGRAM "
	compiled(t, big+config)
	// A hidden variable has a cell.
	checkFaults(t, []string{config, strings.Replace(big, "PROGRAM p VAR", "PROGRAM ^p VAR q : BOOL; END_VAR VAR", 1)}, api.ErrFull)
	checkFaults(t, []string{plain, strings.Replace(big, "PROGRAM p", "PROGRAM r", 1), "^" + strings.Replace(config, "PROGRAM q WITH t : p;", "PROGRAM q WITH t : p; PROGRAM a : r; PROGRAM b : r;", 1)}, api.ErrFull)
}

// P24.1, step 5: what core says, at its place in the source, whatever the language.
func TestTypesAtFault(t *testing.T) {
	for _, x := range []struct {
		body string
		why  api.Errno
	}{
		{" q := ^1; ", api.ErrMust}, {" q := (q ^+ q); ", api.ErrMust}, {" IF TRUE THEN q := ^zz; END_IF; ", api.ErrUnknown}, {" n[^q] := 1; ", api.ErrMust}, {" ^EXIT; ", api.ErrPlace},
		{"{IL}\nLD q\nST ^zz ", api.ErrUnknown}, {"{IL}\nLD q\n^ADD q\nST q ", api.ErrMust}, {"{IL} LD ^zz\n ST q ", api.ErrUnknown}, {"{IL} LD q\n^JMPC l ", api.ErrLabel},
		{"{LD} RUNG ^zz => q; ", api.ErrUnknown}, {"{LD} RUNG q [ q | !q ^zz ] => q; ", api.ErrUnknown}, {"{LD} RUNG => ^+n; ", api.ErrMust},
		{"{FBD} NETWORK q => q; ^zz(IN := q); END_NETWORK ", api.ErrUnknown}, {"{FBD} NETWORK ^x : INT := NOTHING(q); x => k; END_NETWORK ", api.ErrFunction},
		{"{SFC} INITIAL_STEP a: END_STEP TRANSITION FROM a TO a := ^zz; END_TRANSITION ", api.ErrUnknown}, {"{SFC} INITIAL_STEP a: x(N); END_STEP ACTION x: q := ^1; END_ACTION ", api.ErrMust},
		// What a chart's scan is made of has its places where the body begins.
		{"{SFC}^ INITIAL_STEP a: zz(N); END_STEP ", api.ErrUnknown},
	} {
		checkFaults(t, []string{config, "TYPE x : INT; END_TYPE PROGRAM p VAR q : BOOL; k : INT; n : ARRAY [1..2] OF INT; END_VAR" + x.body + "END_PROGRAM"}, x.why)
	}
	checkFaults(t, []string{"PROGRAM p VAR_EXTERNAL ^g : BOOL; END_VAR END_PROGRAM", config}, api.ErrUnknown)
	checkFaults(t, []string{plain + config, "FUNCTION ^f : INT f := g(); END_FUNCTION FUNCTION g : INT g := f(); END_FUNCTION"}, api.ErrCalls)
	// The first POU alone
	checkFaults(t, []string{"PROGRAM p ^x := y; END_PROGRAM PROGRAM r x := y; END_PROGRAM", config, "PROGRAM s x := y; END_PROGRAM"}, api.ErrUnknown)
	// A timer that is hidden in a function has no place.
	m, faults := plc.Compile([]string{plain + config, "FUNCTION f : INT {SFC} INITIAL_STEP a: x(D, T#1s); END_STEP ACTION x: END_ACTION END_FUNCTION"})
	if want := []api.Diag{diag(1, 0, api.ErrPlace)}; !slices.Equal(faults, want) || !isEmptyImage(m) {
		t.Error(faults)
	}
}

// The steps come in their order, whatever stands in front.
func TestOrderOfSteps(t *testing.T) {
	const types, layout, body = "PROGRAM p x := y; END_PROGRAM ", "PROGRAM r VAR b : nothing; END_VAR END_PROGRAM ", "PROGRAM s ) END_PROGRAM "
	checkFaults(t, []string{types + layout + body, "PROGRAM ^1"}, api.ErrToken)
	checkFaults(t, []string{types + layout, "PROGRAM s ^) END_PROGRAM ", config}, api.ErrToken)
	checkFaults(t, []string{types + layout + "PROGRAM s ^) END_PROGRAM "}, api.ErrToken)
	checkFaults(t, []string{"^" + types + layout}, api.ErrConfig)
	checkFaults(t, []string{types + "PROGRAM r VAR ^b : nothing; END_VAR END_PROGRAM ", config}, api.ErrBlock)
	checkFaults(t, []string{"PROGRAM p ^x := y; END_PROGRAM ", config}, api.ErrUnknown)
}
