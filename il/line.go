package il

import (
	"slices"
	"strings"

	"relay/api"
	"relay/st"
	"relay/words"
)

// lineLength is how many words stand in the line of the first one.
func lineLength(src string, list []api.Token) int {
	for i := 1; i < len(list); i++ {
		// Words may have bytes 10 in them, too: a pragma has.
		if strings.Contains(src[list[i-1].At:list[i].At], "\n") {
			return i
		}
	}
	return len(list)
}

// lineReader reads a line.
type lineReader struct{ words.Reader }

func newLineReader(list []api.Token) *lineReader {
	return &lineReader{words.Of(list, list[len(list)-1].End)}
}

func (r *lineReader) instruction() api.IlInstr {
	at := r.Peek().At
	label := r.label()
	if label != "" && r.Done() {
		return api.IlInstr{At: at, Label: label}
	}
	first := r.Peek()
	in, wants, is := begun(first)
	words.Must(is, first.At, api.ErrLine)
	in.At, in.Label = at, label
	r.Skip()
	r.wanted(&in, wants)
	words.Must(r.Done(), r.Peek().At, api.ErrLine)
	return in
}

// label is the label's name; empty, if there is none.
func (r *lineReader) label() string {
	first := r.Peek()
	if first.Kind != api.TokName || !words.Is(r.Second(), ":") {
		return ""
	}
	r.Skip()
	r.Skip()
	return first.Text
}

// wanted reads what an operator wants.
func (r *lineReader) wanted(in *api.IlInstr, wants int) {
	switch wants {
	case wantsOperand:
		in.Args = []api.Expr{r.operand(isOperand)}
	case wantsPlace:
		in.Args = []api.Expr{r.operand(isPlace)}
	case wantsOpen:
		in.Open = r.Takes("(")
		if !in.Open || !r.Done() {
			in.Args = []api.Expr{r.operand(isOperand)}
		}
	case wantsName:
		in.Name = r.name().Text
	case wantsCall:
		r.call(in)
	case wantsOperands:
		if !r.Done() {
			in.Args = r.operands()
		}
	}
}

func (r *lineReader) operands() []api.Expr {
	l := []api.Expr{r.operand(isOperand)}
	for r.Takes(",") {
		l = append(l, r.operand(isOperand))
	}
	return l
}

// operand is the next expression, which must be of some sort.
func (r *lineReader) operand(is func(api.Expr) bool) api.Expr {
	first := r.Peek()
	e, taken, err := st.One(r.Rest(), r.End())
	words.Pass(err)
	words.Must(is(e), first.At, api.ErrLine)
	for range taken {
		r.Skip()
	}
	return e
}

func isPlace(e api.Expr) bool {
	return e.Op == api.ExName || e.Op == api.ExIndex || e.Op == api.ExField
}

func isOperand(e api.Expr) bool {
	return isPlace(e) || e.Op == api.ExLit || e.Op == api.OpNeg && e.Kids[0].Op == api.ExLit
}

func (r *lineReader) name() api.Token {
	t := r.Peek()
	words.Must(t.Kind == api.TokName, t.At, api.ErrLine)
	r.Skip()
	return t
}

// call reads an instance's name, and perhaps arguments in brackets: with a bracket the rest of the line must be one call of chapter 5.
func (r *lineReader) call(in *api.IlInstr) {
	rest := slices.Clone(r.Rest())
	name := r.name()
	in.Name = name.Text
	if !r.Sees("(") {
		return
	}
	semicolon := api.Token{Kind: api.TokMark, At: r.End(), End: r.End(), Text: ";"}
	l, err := st.Body(append(rest, semicolon), r.End())
	words.Pass(err)
	words.Must(len(l) == 1 && l[0].Op == api.StCall, name.At, api.ErrLine)
	in.Args, in.Names, in.Outs, in.OutNames = l[0].Exprs, l[0].Names, l[0].Outs, l[0].OutNames
	for !r.Done() {
		r.Skip()
	}
}
