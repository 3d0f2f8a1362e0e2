package lex_test

import (
	"math"
	"math/big"
	"regexp"
	"strconv"
	"strings"
	"testing"

	"relay/api"
	"relay/lex"
	"relay/times"
	"relay/value"
)

// The model: words as regular expressions over the rest of a text, and numbers as fractions. It shares nothing with the program but value and times.

const (
	kindWords     = "BOOL|SINT|INT|DINT|LINT|USINT|UINT|UDINT|ULINT|BYTE|WORD|DWORD|LWORD|TIME|DATE|TOD|DT|LREAL|STRING"
	reservedWords = "ACTION AND ARRAY AT BY CASE CONFIGURATION CONSTANT DO ELSE ELSIF END_ACTION END_CASE END_CONFIGURATION END_FOR END_FUNCTION END_FUNCTION_BLOCK END_IF END_NETWORK END_PROGRAM END_REPEAT END_RESOURCE END_STEP END_TRANSITION END_TYPE END_VAR END_WHILE EXIT FOR FROM FUNCTION FUNCTION_BLOCK IF INITIAL_STEP MOD NETWORK NOT OF ON OR PROGRAM REPEAT RESOURCE RETAIN RETURN RUNG STEP TASK THEN TO TRANSITION TYPE UNTIL VAR VAR_EXTERNAL VAR_GLOBAL VAR_INPUT VAR_IN_OUT VAR_OUTPUT VAR_TEMP WHILE WITH XOR"
	allMarks      = ":= => <> <= >= .. = < > + - * / ( ) [ ] , ; : . & | !"
)

var (
	blanksForm  = regexp.MustCompile(`^(?:[ \t\n\r]|//[^\n]*|\(\*(?s:.*?)\*\))+`)
	kindForm    = regexp.MustCompile(`^(?i)(` + kindWords + `|T|D|TIME_OF_DAY|DATE_AND_TIME)#`)
	nameForm    = regexp.MustCompile(`^[a-zA-Z][a-zA-Z0-9_]*`)
	numberForm  = regexp.MustCompile(`^[0-9](?:_?[0-9])*`)
	baseForm    = regexp.MustCompile(`^(?i)(?:2#[01](?:_?[01])*|8#[0-7](?:_?[0-7])*|16#[0-9A-F](?:_?[0-9A-F])*)`)
	floatForm   = regexp.MustCompile(`^([0-9](?:_?[0-9])*)\.([0-9](?:_?[0-9])*)(?:[eE]([+-]?[0-9](?:_?[0-9])*))?`)
	textForm    = regexp.MustCompile(`^(?s)'(?:[^$']|\$.)*'`)
	innerForm   = regexp.MustCompile(`^(?:[^$'\x00-\x1f]|\$(?i:[$'LNPRT]|[0-9A-F][0-9A-F]))*$`)
	escapeForm  = regexp.MustCompile(`\$(?i:[$'LNPRT]|[0-9A-F][0-9A-F])`)
	addressForm = regexp.MustCompile(`^(?i)%[IQM](?:[BWDL](?:0|[1-9][0-9]{0,3})|X(?:0|[1-9][0-9]{0,3})\.[0-7])`)
	pragmaForm  = regexp.MustCompile(`^(?s)\{[^}]*\}`)
	timeForm    = regexp.MustCompile(`^[a-zA-Z0-9.:_-]*`)
	behindForm  = regexp.MustCompile(`^[a-zA-Z0-9_]`)
	blankRun    = regexp.MustCompile(`[ \t\n\r]+`)
)

func upper(s string) string {
	var b strings.Builder
	for i := range len(s) {
		if strings.Contains("abcdefghijklmnopqrstuvwxyz", s[i:i+1]) {
			b.WriteString(strings.ToUpper(s[i : i+1]))
		} else {
			b.WriteByte(s[i])
		}
	}
	return b.String()
}

func isReserved(s string) bool {
	return strings.Contains(" "+reservedWords+" "+strings.ReplaceAll(kindWords, "|", " ")+" ", " "+s+" ")
}

type found struct {
	kind  int
	text  string
	value api.Value
	size  int
	why   api.Errno
	shift int // how far behind the word's beginning the fault is
}

func model(src string) ([]api.Token, error) {
	if len(src) > api.MaxSource {
		return nil, api.Fault{Why: api.ErrLong}
	}
	var l []api.Token
	at := 0
	for {
		at += len(blanksForm.FindString(src[at:]))
		rest := src[at:]
		if rest == "" {
			return l, nil
		}
		isOpen := strings.HasPrefix(rest, "(*") || rest[0] == '\'' && !textForm.MatchString(rest) || rest[0] == '{' && !pragmaForm.MatchString(rest)
		if isOpen {
			return nil, api.Fault{At: at, Why: api.ErrOpen}
		}
		if len(l) == api.MaxTokens {
			return nil, api.Fault{At: at, Why: api.ErrLong}
		}
		f := modelWord(rest)
		if f.why != 0 {
			return nil, api.Fault{At: at + f.shift, Why: f.why}
		}
		l = append(l, api.Token{Kind: f.kind, At: at, End: at + f.size, Text: f.text, Value: f.value})
		at += f.size
	}
}

func modelWord(s string) found {
	wrong := found{why: api.ErrNumber}
	if m := kindForm.FindStringSubmatch(s); m != nil {
		f := modelKind(upper(m[1]), s[len(m[0]):])
		f.size += len(m[0])
		if f.why == api.ErrOpen {
			f.shift = len(m[0])
		}
		return f
	}
	if w := nameForm.FindString(s); w != "" {
		return modelName(w)
	}
	switch c := s[0]; {
	case c >= '0' && c <= '9':
		n, size, isFloat, ok := modelNumber(s)
		switch {
		case !ok:
			return wrong
		case isFloat:
			f, _ := n.Float64()
			return found{kind: api.TokLit, size: size, value: value.Lreal(f)}
		}
		return found{kind: api.TokLit, size: size, value: api.Value{Bits: n.Num().Uint64()}}
	case c == '\'':
		return modelText(s)
	case c == '%':
		w := addressForm.FindString(s)
		if w == "" || behindForm.MatchString(s[len(w):]) {
			return wrong
		}
		return found{kind: api.TokAddr, text: upper(w), size: len(w)}
	case c == '{':
		w := pragmaForm.FindString(s)
		text := strings.Trim(blankRun.ReplaceAllString(w[1:len(w)-1], " "), " ")
		return found{kind: api.TokPragma, text: upper(text), size: len(w)}
	}
	for _, m := range strings.Fields(allMarks) {
		if strings.HasPrefix(s, m) {
			return found{kind: api.TokMark, text: m, size: len(m)}
		}
	}
	return found{why: api.ErrByte}
}

func modelName(w string) found {
	text := upper(w)
	switch {
	case len(w) > api.MaxName:
		return found{why: api.ErrName}
	case text == "TRUE" || text == "FALSE":
		return found{kind: api.TokLit, size: len(w), value: value.Bool(text == "TRUE")}
	case isReserved(text):
		return found{kind: api.TokWord, text: text, size: len(w)}
	}
	return found{kind: api.TokName, text: text, size: len(w)}
}

func modelKind(word, rest string) found {
	wrong := found{why: api.ErrNumber}
	short := map[string]string{"T": "TIME", "D": "DATE", "TIME_OF_DAY": "TOD", "DATE_AND_TIME": "DT"}
	if w := short[word]; w != "" {
		word = w
	}
	k, _ := value.Kind(word)
	switch k {
	case api.KTime, api.KDate, api.KTod, api.KDt:
		run := timeForm.FindString(rest)
		v, ok := times.Parse(k, run)
		if !ok {
			return wrong
		}
		return found{kind: api.TokLit, size: len(run), value: v}
	case api.KString:
		switch {
		case !strings.HasPrefix(rest, "'"):
			return wrong
		case !textForm.MatchString(rest):
			return found{why: api.ErrOpen}
		}
		return modelText(rest)
	case api.KBool:
		if w := upper(nameForm.FindString(rest)); w != "" && w != "TRUE" && w != "FALSE" {
			return wrong
		} else if w != "" {
			return found{kind: api.TokLit, size: len(w), value: value.Bool(w == "TRUE")}
		}
	}
	digits, below := strings.CutPrefix(rest, "-")
	n, size, isFloat, ok := modelNumber(digits)
	if !ok || isFloat && k != api.KLreal {
		return wrong
	}
	size += len(rest) - len(digits)
	if k == api.KLreal {
		if !isFloat && n.Cmp(new(big.Rat).SetInt64(1<<53)) > 0 {
			return wrong
		}
		f, _ := n.Float64()
		if below {
			f = math.Copysign(f, -1)
		}
		return found{kind: api.TokLit, size: size, value: value.Lreal(f)}
	}
	whole := n.Num()
	if below {
		whole = new(big.Int).Neg(whole)
	}
	return modelWhole(k, whole, size)
}

// modelWhole: a number is of a kind, if the value with its bits may be, and has that number.
func modelWhole(k api.Kind, n *big.Int, size int) found {
	bits := new(big.Int).And(n, new(big.Int).SetUint64(math.MaxUint64)).Uint64()
	v := api.Value{Kind: k, Bits: bits}
	back := new(big.Int).SetUint64(bits)
	if k >= api.KSint && k <= api.KLint {
		back.SetInt64(int64(bits))
	}
	if !value.May(v) || back.Cmp(n) != 0 {
		return found{why: api.ErrNumber}
	}
	return found{kind: api.TokLit, size: size, value: v}
}

func modelText(s string) found {
	w := textForm.FindString(s)
	inner := w[1 : len(w)-1]
	// Byte by byte: a text need not be well-formed.
	wide := latin(inner)
	if !innerForm.MatchString(wide) {
		return found{why: api.ErrNumber}
	}
	codes := map[string]int{"$$": 36, "$'": 39, "$L": 10, "$N": 10, "$P": 12, "$R": 13, "$T": 9}
	plain := escapeForm.ReplaceAllStringFunc(wide, func(e string) string {
		c, ok := codes[upper(e)]
		if !ok {
			n, _ := strconv.ParseUint(e[1:], 16, 8)
			c = int(n)
		}
		return string(rune(c))
	})
	var l []byte
	for _, r := range plain {
		l = append(l, byte(r))
	}
	if len(l) > api.MaxText {
		return found{why: api.ErrNumber}
	}
	return found{kind: api.TokLit, size: len(w), value: api.Value{Kind: api.KString, Text: string(l)}}
}

// latin is a text with a rune for each byte.
func latin(s string) string {
	var l []rune
	for i := range len(s) {
		l = append(l, rune(s[i]))
	}
	return string(l)
}

func modelNumber(s string) (n *big.Rat, size int, isFloat, ok bool) {
	n = new(big.Rat)
	if w := baseForm.FindString(s); w != "" {
		base, digits, _ := strings.Cut(w, "#")
		b, _ := strconv.Atoi(base)
		whole, _ := new(big.Int).SetString(strings.ReplaceAll(digits, "_", ""), b)
		return n.SetInt(whole), len(w), false, whole.IsUint64() && !behindForm.MatchString(s[len(w):])
	}
	if m := floatForm.FindStringSubmatch(s); m != nil {
		size = len(m[0])
		ahead, behind := strings.ReplaceAll(m[1], "_", ""), strings.ReplaceAll(m[2], "_", "")
		e, _ := new(big.Int).SetString("0"+strings.TrimLeft(strings.ReplaceAll(m[3], "_", ""), "+-"), 10)
		if strings.HasPrefix(m[3], "-") {
			e.Neg(e)
		}
		e.Sub(e, big.NewInt(int64(len(behind))))
		if len(ahead+behind) > 15 || e.CmpAbs(big.NewInt(22)) > 0 || behindForm.MatchString(s[size:]) {
			return nil, 0, false, false
		}
		n.SetString(ahead + behind)
		ten := new(big.Rat).SetInt(new(big.Int).Exp(big.NewInt(10), new(big.Int).Abs(e), nil))
		if e.Sign() < 0 {
			ten.Inv(ten)
		}
		return n.Mul(n, ten), size, true, true
	}
	w := numberForm.FindString(s)
	rest := s[len(w):]
	isBase := strings.HasPrefix(rest, "#") && (w == "2" || w == "8" || w == "16")
	if w == "" || isBase || behindForm.MatchString(rest) {
		return nil, 0, false, false
	}
	whole, _ := new(big.Int).SetString(strings.ReplaceAll(w, "_", ""), 10)
	return n.SetInt(whole), len(w), false, whole.IsUint64()
}

func sameTokens(a, b []api.Token) bool {
	if len(a) != len(b) {
		return false
	}
	for i := range a {
		if a[i] != b[i] {
			return false
		}
	}
	return true
}

func againstModel(t *testing.T, src string) {
	t.Helper()
	got, err := lex.Scan(src)
	want, wrong := model(src)
	if err != wrong || !sameTokens(got, want) {
		t.Fatalf("%.200q:\n got %v %v\nwant %v %v", src, got, err, want, wrong)
	}
}
