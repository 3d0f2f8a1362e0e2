// Package words goes through the words of a text, for the layers that read a grammar. What a reader can't go on at it tells by a panic with a fault, which a layer's face catches.
package words

import (
	"errors"

	"relay/api"
)

// Fail gives up with a fault.
func Fail(at int, why api.Errno) { panic(api.Fault{At: at, Why: why}) }

// Must gives up with a fault, if what must be is not.
func Must(is bool, at int, why api.Errno) {
	if !is {
		Fail(at, why)
	}
}

// Pass gives up with the fault that a layer below has found, if it has found one.
func Pass(err error) {
	var fault api.Fault
	if errors.As(err, &fault) {
		Fail(fault.At, fault.Why)
	}
}

// Caught is the fault with which a reader gave up, of what was recovered; nil, if it did not. Any other panic goes on.
func Caught(gave any) error {
	switch x := gave.(type) {
	case nil:
		return nil
	case api.Fault:
		return x
	}
	panic(gave)
}

// Reader goes through words, from the first one on.
type Reader struct {
	list []api.Token
	next int
	end  int
}

// Of is a reader of a list; end is the place behind its last word.
func Of(list []api.Token, end int) Reader { return Reader{list: list, end: end} }

// End is the place behind the last word.
func (r *Reader) End() int { return r.end }

// Taken is how many words are read.
func (r *Reader) Taken() int { return r.next }

// Behind is the place behind the word that was read last; 0, if none was.
func (r *Reader) Behind() int {
	if r.next == 0 {
		return 0
	}
	return r.list[r.next-1].End
}

// Rest is the words that are left. They are the list's own.
func (r *Reader) Rest() []api.Token { return r.list[r.next:] }

// Done tells whether all words are read.
func (r *Reader) Done() bool { return r.next == len(r.list) }

// Peek is the next word; behind the last one a token of no kind, at the end.
func (r *Reader) Peek() api.Token { return r.ahead(0) }

// Second is the word behind the next one.
func (r *Reader) Second() api.Token { return r.ahead(1) }

func (r *Reader) ahead(n int) api.Token {
	if rest := r.Rest(); n < len(rest) {
		return rest[n]
	}
	return api.Token{At: r.end}
}

// Skip goes on behind the next word, if there is one.
func (r *Reader) Skip() {
	if !r.Done() {
		r.next++
	}
}

// Is tells whether a word is that mark or reserved word.
func Is(t api.Token, text string) bool {
	return (t.Kind == api.TokWord || t.Kind == api.TokMark) && t.Text == text
}

// Sees tells whether a mark or a reserved word is next.
func (r *Reader) Sees(text string) bool { return Is(r.Peek(), text) }

// Takes goes on behind a mark or a reserved word, if that is next.
func (r *Reader) Takes(text string) bool {
	is := r.Sees(text)
	if is {
		r.Skip()
	}
	return is
}

// Want goes on behind a mark or a reserved word, which must be next.
func (r *Reader) Want(text string) { Must(r.Takes(text), r.Peek().At, api.ErrToken) }

// Token is the next word, which must be of a kind.
func (r *Reader) Token(kind int) api.Token {
	t := r.Peek()
	Must(t.Kind == kind, t.At, api.ErrToken)
	r.Skip()
	return t
}

// Name is the next word, which must be a name.
func (r *Reader) Name() api.Token { return r.Token(api.TokName) }

// Close gives up, unless all words are read.
func (r *Reader) Close() { Must(r.Done(), r.Peek().At, api.ErrToken) }
