package decl

import (
	"math"

	"relay/api"
	"relay/words"
)

// reader goes through the words of a text, and reads numbers.
type reader struct {
	words.Reader
	text string
}

func newReader(text string, list []api.Token) reader {
	return reader{Reader: words.Of(list, len(text)), text: text}
}

// wantName goes on behind a name that is told, which must be next.
func (r *reader) wantName(text string) {
	t := r.Name()
	words.Must(t.Text == text, t.At, api.ErrToken)
}

// number is a literal of no kind, perhaps with - ahead, that an int has.
func (r *reader) number() int {
	most := uint64(math.MaxInt64)
	below := r.Takes("-")
	if below {
		most++
	}
	t := r.Token(api.TokLit)
	words.Must(t.Value.Kind == api.KNone && t.Value.Bits <= most, t.At, api.ErrToken)
	if below {
		return -int(t.Value.Bits)
	}
	return int(t.Value.Bits)
}

// bounds is two numbers with .. between.
func (r *reader) bounds() (int, int) {
	low := r.number()
	r.Want("..")
	return low, r.number()
}
