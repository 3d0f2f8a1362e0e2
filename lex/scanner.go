package lex

import (
	"strings"

	"relay/api"
	"relay/value"
)

// Words with a meaning of their own, kinds' words aside.
const (
	reserved = "ACTION AND ARRAY AT BY CASE CONFIGURATION CONSTANT DO ELSE ELSIF END_ACTION END_CASE END_CONFIGURATION END_FOR " +
		"END_FUNCTION END_FUNCTION_BLOCK END_IF END_NETWORK END_PROGRAM END_REPEAT END_RESOURCE END_STEP END_TRANSITION END_TYPE " +
		"END_VAR END_WHILE EXIT FOR FROM FUNCTION FUNCTION_BLOCK IF INITIAL_STEP MOD NETWORK NOT OF ON OR PROGRAM REPEAT RESOURCE " +
		"RETAIN RETURN RUNG STEP TASK THEN TO TRANSITION TYPE UNTIL VAR VAR_EXTERNAL VAR_GLOBAL VAR_INPUT VAR_IN_OUT VAR_OUTPUT " +
		"VAR_TEMP WHILE WITH XOR"
	trueWord  = "TRUE"
	falseWord = "FALSE"
)

// scanner goes through a text from the left to the right; what it can't go on at it tells by a panic with a fault.
type scanner struct {
	src    string
	at     int
	words  map[string]int      // kinds of the tokens of words that are no names
	kinds  map[string]api.Kind // kinds of literals, by what stands ahead of #
	tokens []api.Token
}

func newScanner(src string) *scanner {
	return &scanner{src: src, words: knownWords(), kinds: knownKinds()}
}

func knownWords() map[string]int {
	words := map[string]int{trueWord: api.TokLit, falseWord: api.TokLit}
	for _, w := range strings.Fields(reserved) {
		words[w] = api.TokWord
	}
	for k := api.KBool; k <= api.KString; k++ {
		words[value.Word(k)] = api.TokWord
	}
	return words
}

func knownKinds() map[string]api.Kind {
	kinds := map[string]api.Kind{"T": api.KTime, "D": api.KDate, "TIME_OF_DAY": api.KTod, "DATE_AND_TIME": api.KDt}
	for k := api.KBool; k <= api.KString; k++ {
		kinds[value.Word(k)] = k
	}
	return kinds
}

func (s *scanner) fail(at int, why api.Errno) { panic(api.Fault{At: at, Why: why}) }

// must gives up at a literal, or an address, that can't be.
func (s *scanner) must(can bool, at int) {
	if !can {
		s.fail(at, api.ErrNumber)
	}
}

func (s *scanner) all() []api.Token {
	if len(s.src) > api.MaxSource {
		s.fail(0, api.ErrLong)
	}
	for s.skip(); s.at < len(s.src); s.skip() {
		t := s.word()
		s.tokens = append(s.tokens, t)
		s.at = t.End
	}
	return s.tokens
}

// skip goes on behind blanks and remarks.
func (s *scanner) skip() {
	for s.at < len(s.src) {
		rest := s.src[s.at:]
		switch {
		case isBlank(rest[0]):
			s.at++
		case strings.HasPrefix(rest, "(*"):
			s.at = s.closed(2, "*)")
		case strings.HasPrefix(rest, "//"):
			s.at = runEnd(s.src, s.at, func(c byte) bool { return c != '\n' })
		default:
			return
		}
	}
}

// closed is the place behind the mark that ends what begins here with so many bytes.
func (s *scanner) closed(begin int, mark string) int {
	from := s.at + begin
	n := strings.Index(s.src[from:], mark)
	if n < 0 {
		s.fail(s.at, api.ErrOpen)
	}
	return from + n + len(mark)
}

// word is the word that begins here.
func (s *scanner) word() api.Token {
	first := s.src[s.at]
	end := 0
	// What does not end is told ahead of a word too many.
	switch first {
	case '\'':
		end = s.textEnd(s.at)
	case '{':
		end = s.closed(1, "}")
	}
	if len(s.tokens) == api.MaxTokens {
		s.fail(s.at, api.ErrLong)
	}
	switch {
	case isLetter(first):
		return s.letters()
	case isDigit(first):
		n := s.number(s.at)
		return s.literal(n.end, n.value())
	case first == '\'':
		return s.literal(end, s.text(s.at, end))
	case first == '%':
		return s.address()
	case first == '{':
		return s.token(api.TokPragma, end, capitals(squeezed(s.src[s.at+1:end-1])))
	}
	return s.mark()
}

func (s *scanner) token(kind, end int, text string) api.Token {
	return api.Token{Kind: kind, At: s.at, End: end, Text: text}
}

func (s *scanner) literal(end int, v api.Value) api.Token {
	return api.Token{Kind: api.TokLit, At: s.at, End: end, Value: v}
}

// letters is a literal with a kind, or a name or word.
func (s *scanner) letters() api.Token {
	if end := runEnd(s.src, s.at, isKindByte); byteAt(s.src, end) == '#' {
		if k, ok := s.kinds[capitals(s.src[s.at:end])]; ok {
			return s.ofKind(k, end+1)
		}
	}
	end := runEnd(s.src, s.at, isNameByte)
	if end-s.at > api.MaxName {
		s.fail(s.at, api.ErrName)
	}
	text := capitals(s.src[s.at:end])
	switch s.words[text] {
	case api.TokLit:
		return s.literal(end, value.Bool(text == trueWord))
	case api.TokWord:
		return s.token(api.TokWord, end, text)
	}
	return s.token(api.TokName, end, text)
}

func (s *scanner) address() api.Token {
	end := addressEnd(s.src, s.at)
	s.must(end > 0 && !isNameByte(byteAt(s.src, end)), s.at)
	return s.token(api.TokAddr, end, capitals(s.src[s.at:end]))
}

func (s *scanner) mark() api.Token {
	pair := s.src[s.at:min(s.at+2, len(s.src))]
	switch pair {
	case ":=", "=>", "<>", "<=", ">=", "..":
		return s.token(api.TokMark, s.at+2, strings.Clone(pair))
	}
	if strings.IndexByte("=<>+-*/()[],;:.&|!", pair[0]) < 0 {
		s.fail(s.at, api.ErrByte)
	}
	return s.token(api.TokMark, s.at+1, strings.Clone(pair[:1]))
}
