package decl

import (
	"math"

	"relay/api"
)

// reader goes through the words of a text; what it can't go on at it tells by a panic with a fault.
type reader struct {
	text   string
	tokens []api.Token
	next   int
}

func fail(at int, why api.Errno) { panic(api.Fault{At: at, Why: why}) }

// must gives up with a fault, if what must be is not.
func must(is bool, at int, why api.Errno) {
	if !is {
		fail(at, why)
	}
}

// peek is the next word; behind the last one a token of no kind, at the text's end.
func (r *reader) peek() api.Token {
	if r.next < len(r.tokens) {
		return r.tokens[r.next]
	}
	return api.Token{At: len(r.text)}
}

// sees tells whether a mark or a reserved word is next.
func (r *reader) sees(text string) bool {
	t := r.peek()
	return (t.Kind == api.TokWord || t.Kind == api.TokMark) && t.Text == text
}

// takes goes on behind a mark or a reserved word, if that is next.
func (r *reader) takes(text string) bool {
	if !r.sees(text) {
		return false
	}
	r.next++
	return true
}

// want goes on behind a mark or a reserved word, which must be next.
func (r *reader) want(text string) { must(r.takes(text), r.peek().At, api.ErrToken) }

// wantName goes on behind a name that is told, which must be next.
func (r *reader) wantName(text string) {
	t := r.peek()
	must(t.Kind == api.TokName && t.Text == text, t.At, api.ErrToken)
	r.next++
}

// token is the next word, which must be of a kind.
func (r *reader) token(kind int) api.Token {
	t := r.peek()
	must(t.Kind == kind, t.At, api.ErrToken)
	r.next++
	return t
}

func (r *reader) name() api.Token { return r.token(api.TokName) }

// end gives up, unless all words are read.
func (r *reader) end() { must(r.next >= len(r.tokens), r.peek().At, api.ErrToken) }

// number is a literal of no kind, perhaps with - ahead, that an int has.
func (r *reader) number() int {
	most := uint64(math.MaxInt64)
	below := r.takes("-")
	if below {
		most++
	}
	t := r.peek()
	must(t.Kind == api.TokLit && t.Value.Kind == api.KNone && t.Value.Bits <= most, t.At, api.ErrToken)
	r.next++
	if below {
		return -int(t.Value.Bits)
	}
	return int(t.Value.Bits)
}

// bounds is two numbers with .. between.
func (r *reader) bounds() (int, int) {
	low := r.number()
	r.want("..")
	return low, r.number()
}
