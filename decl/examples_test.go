package decl_test

import (
	"strings"
	"testing"

	"relay/api"
	"relay/value"
)

// The chapter's examples, whole.
func TestExamples(t *testing.T) {
	const src = "TYPE level : INT (0..100); c : (red, green); END_TYPE PROGRAM p VAR x : LEVEL := 5; t : TON; a : ARRAY [1..3] OF INT := [1, 2]; END_VAR x := 1; END_PROGRAM"
	at := func(s string) int { return strings.Index(src, s) }
	number := func(n int) api.Value {
		v, _ := value.Int(api.KInt, n)
		return v
	}
	level := api.Type{Kind: api.KInt, Sub: true, Hi: 100}
	same(t, plain(parsed(t, src)), api.Project{
		Types:  []api.Named{{Name: "LEVEL", At: 5, Type: level}, {Name: "C", At: at("c :"), Type: api.Type{Kind: api.KInt, Sub: true, Hi: 1}}},
		Consts: []api.Const{{Name: "RED", At: at("red"), Value: number(0)}, {Name: "GREEN", At: at("green"), Value: number(1)}},
		Pous: []api.Pou{{
			What: api.PouProgram, Name: "P", At: at("p VAR"), Lang: api.LangST, Text: " x := 1; ", From: at(" x := 1"),
			Vars: []api.Var{
				{Name: "X", At: at("x : L"), Class: api.VarLocal, Type: level, Init: []api.Value{number(5)}},
				{Name: "T", At: at("t : TON"), Class: api.VarLocal, Type: api.Type{Block: "TON"}},
				{Name: "A", At: at("a : A"), Class: api.VarLocal, Type: api.Type{Kind: api.KInt, Array: true, From: 1, To: 3}, Init: []api.Value{number(1), number(2)}},
			},
		}},
	}, src)
	const config = "CONFIGURATION c VAR_GLOBAL g : BOOL; END_VAR RESOURCE r ON plc TASK t (INTERVAL := T#10ms, PRIORITY := 1); PROGRAM m WITH t : p; END_RESOURCE END_CONFIGURATION"
	same(t, plain(parsed(t, config)), api.Project{
		Name:    "R",
		Globals: []api.Var{{Name: "G", At: 27, Class: api.VarGlobal, Type: api.Type{Kind: api.KBool}}},
		Tasks:   []api.Task{{Name: "T", At: strings.Index(config, "t ("), Interval: 10000000, Priority: 1}},
		Runs:    []api.Run{{Name: "M", Task: "T", Pou: "P", At: strings.Index(config, "m WITH")}},
	}, config)
	fault(t, "TYPE level : INT (0..100); END_TYPE PROGRAM p VAR x : LEVEL := ¦101; END_VAR END_PROGRAM", api.ErrInit)
}

// 4.1: bodies, their languages and their places.
func TestBodyTexts(t *testing.T) {
	for marked, lang := range map[string]int{
		"PROGRAM p¦ |END_PROGRAM":                                                           api.LangST,
		"PROGRAM p{st}¦|END_PROGRAM":                                                        api.LangST,
		"PROGRAM p (* x *) { IL }¦ LD a |end_program":                                       api.LangIL,
		"PROGRAM p {LD}¦ {ST} |END_PROGRAM":                                                 api.LangLD,
		"PROGRAM p {Fbd}¦\nEND_IF 'END_PROGRAM' |END_PROGRAM":                               api.LangFBD,
		"PROGRAM p {sfc}¦ (* END_PROGRAM *) // END_PROGRAM\n|END_PROGRAM":                   api.LangSFC,
		"PROGRAM p¦ {S T} {IL} |END_PROGRAM":                                                api.LangST,
		"PROGRAM p¦ x {IL} |END_PROGRAM":                                                    api.LangST,
		"PROGRAM p¦ {} |END_PROGRAM":                                                        api.LangST,
		"PROGRAM p VAR END_VAR¦ END_VAR VAR x |END_PROGRAM":                                 api.LangST,
		"FUNCTION f : INT (0..5)¦ f := 1; |END_FUNCTION":                                    api.LangST,
		"FUNCTION f : STRING [5] VAR x : INT; END_VAR {IL}¦ ST f |END_FUNCTION":             api.LangIL,
		"FUNCTION_BLOCK b VAR_IN_OUT END_VAR¦; {ST} CONFIGURATION TYPE |END_FUNCTION_BLOCK": api.LangST,
	} {
		from := strings.Index(marked, "¦")
		src := strings.Replace(marked, "¦", "", 1)
		end := strings.Index(src, "|")
		src = strings.Replace(src, "|", "", 1)
		p := parsed(t, src).Pous[0]
		if p.Lang != lang || p.From != from || p.Text != src[from:end] {
			t.Errorf("%q: %+v", marked, p)
		}
	}
}

// 4.1: which words may stand behind which sections.
func TestSections(t *testing.T) {
	classes := map[string]int{"VAR": api.VarLocal, "VAR_INPUT": api.VarIn, "VAR_OUTPUT": api.VarOut, "VAR_IN_OUT": api.VarInOut, "VAR_TEMP": api.VarTemp, "VAR_EXTERNAL": api.VarExternal, "VAR_GLOBAL": api.VarGlobal}
	const keeps, fixes = " VAR VAR_INPUT VAR_OUTPUT VAR_GLOBAL ", " VAR VAR_EXTERNAL VAR_GLOBAL "
	for word, class := range classes {
		for head, tail := range map[string]string{"FUNCTION f : INT ": "END_FUNCTION", "FUNCTION_BLOCK f ": "END_FUNCTION_BLOCK", "PROGRAM f ": "END_PROGRAM", "CONFIGURATION f ": "RESOURCE r ON p END_RESOURCE END_CONFIGURATION"} {
			isFunction, isConfig := strings.HasSuffix(head, "INT "), strings.HasPrefix(head, "C")
			if isConfig != (class == api.VarGlobal) || isFunction && (class == api.VarOut || class == api.VarExternal) {
				fault(t, head+"¦"+word+" END_VAR "+tail, api.ErrToken)
				continue
			}
			for _, behind := range []string{"", "RETAIN", "CONSTANT"} {
				mayKeep := strings.Contains(keeps, " "+word+" ") && !isFunction
				if behind == "RETAIN" && !mayKeep || behind == "CONSTANT" && !strings.Contains(fixes, " "+word+" ") {
					fault(t, head+word+" ¦"+behind+" END_VAR "+tail, api.ErrToken)
					continue
				}
				p := parsed(t, head+word+" "+behind+" x : INT; END_VAR "+tail)
				l := p.Globals
				if !isConfig {
					l = p.Pous[0].Vars
				}
				if len(l) != 1 || l[0].Class != class || l[0].Keep != (behind == "RETAIN") || l[0].Fixed != (behind == "CONSTANT") {
					t.Error(head, word, behind, l)
				}
			}
		}
	}
}
