package words

import "relay/api"

// Text is a tree's text, written piece by piece. It gives up, as readers do, at what has no text, and beyond the bytes that a source may have: so a printer ends at trees that lead back into themselves, too.
type Text struct{ bytes []byte }

// Must gives up, unless a tree is as one with a text is.
func (t *Text) Must(is bool) { Must(is, len(t.bytes), api.ErrArg) }

// Put writes pieces, one behind the other.
func (t *Text) Put(pieces ...string) {
	for _, s := range pieces {
		t.Must(len(t.bytes)+len(s) <= api.MaxSource)
		t.bytes = append(t.bytes, s...)
	}
}

// String is what is written so far.
func (t *Text) String() string { return string(t.bytes) }
