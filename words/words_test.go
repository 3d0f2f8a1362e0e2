package words_test

import (
	"errors"
	"strings"
	"testing"

	"relay/api"
	"relay/words"
)

func list() []api.Token {
	return []api.Token{{Kind: api.TokName, At: 0, End: 1, Text: "A"}, {Kind: api.TokMark, At: 2, End: 4, Text: ":="}, {Kind: api.TokPragma, At: 5, End: 9, Text: ";"}, {Kind: api.TokWord, At: 10, End: 12, Text: "IF"}}
}

// gaveUp is the fault with which a reader gives up.
func gaveUp(read func()) (err error) {
	defer func() { err = words.Caught(recover()) }()
	read()
	return nil
}

func TestReader(t *testing.T) {
	r := words.Of(list(), 20)
	if r.Taken() != 0 || r.Behind() != 0 || r.End() != 20 || r.Done() || len(r.Rest()) != 4 || r.Peek().Text != "A" || r.Second().Text != ":=" {
		t.Error(r)
	}
	// A name is no mark and no reserved word, and a pragma is neither.
	if r.Sees("A") || r.Takes("A") || r.Name().Text != "A" || !r.Sees(":=") || !r.Takes(":=") || r.Sees(";") || r.Taken() != 2 || r.Behind() != 4 {
		t.Error(r)
	}
	if err := gaveUp(func() { r.Want(";") }); err != error(api.Fault{At: 5, Why: api.ErrToken}) || r.Taken() != 2 {
		t.Error(err)
	}
	if err := gaveUp(func() { r.Name() }); err != error(api.Fault{At: 5, Why: api.ErrToken}) {
		t.Error(err)
	}
	if r.Token(api.TokPragma).At != 5 || r.Second().At != 20 || r.Second().Kind != 0 {
		t.Error(r)
	}
	if err := gaveUp(r.Close); err != error(api.Fault{At: 10, Why: api.ErrToken}) {
		t.Error(err)
	}
	r.Want("IF")
	r.Skip()
	if !r.Done() || r.Taken() != 4 || len(r.Rest()) != 0 || r.Peek() != (api.Token{At: 20}) || gaveUp(r.Close) != nil {
		t.Error(r)
	}
	if err := gaveUp(func() { r.Want(";") }); err != error(api.Fault{At: 20, Why: api.ErrToken}) {
		t.Error(err)
	}
}

func TestCaught(t *testing.T) {
	if err := gaveUp(func() { words.Must(true, 1, api.ErrFull) }); err != nil {
		t.Error(err)
	}
	if err := gaveUp(func() { words.Must(false, 1, api.ErrFull) }); err != error(api.Fault{At: 1, Why: api.ErrFull}) || !errors.Is(err, api.ErrFull) {
		t.Error(err)
	}
	defer func() {
		if gave := recover(); gave != "another" {
			t.Error(gave)
		}
	}()
	gaveUp(func() { panic("another") })
	t.Error("another panic does not go on")
}

func TestPass(t *testing.T) {
	want := api.Fault{At: 3, Why: api.ErrDeep}
	if err := gaveUp(func() { words.Pass(want) }); err != error(want) {
		t.Error(err)
	}
	if err := gaveUp(func() { words.Pass(nil) }); err != nil {
		t.Error(err)
	}
}

func TestText(t *testing.T) {
	var text words.Text
	if text.String() != "" {
		t.Error(text.String())
	}
	text.Put()
	text.Put("a", "", "bc")
	text.Must(true)
	if text.String() != "abc" {
		t.Error(text.String())
	}
	if err := gaveUp(func() { text.Must(false) }); err != error(api.Fault{At: 3, Why: api.ErrArg}) {
		t.Error(err)
	}
	rest := strings.Repeat("x", api.MaxSource-3)
	if err := gaveUp(func() { text.Put(rest + "x") }); !errors.Is(err, api.ErrArg) || text.String() != "abc" {
		t.Error(err)
	}
	text.Put(rest, "")
	if err := gaveUp(func() { text.Put("x") }); !errors.Is(err, api.ErrArg) || len(text.String()) != api.MaxSource {
		t.Error(err)
	}
}
