package sfc

import (
	"slices"

	"relay/api"
	"relay/st"
	"relay/words"
)

// reader reads charts.
type reader struct {
	words.Reader
	steps, actions []string // names so far
}

func (r *reader) chart() api.Chart {
	var c api.Chart
parts:
	for {
		switch first := r.Peek(); {
		case words.Is(first, "INITIAL_STEP"), words.Is(first, "STEP"):
			c.Steps = append(c.Steps, r.step())
		case words.Is(first, "TRANSITION"):
			words.Must(len(c.Trans) < api.MaxTrans, first.At, api.ErrFull)
			c.Trans = append(c.Trans, r.transition())
		case words.Is(first, "ACTION"):
			c.Actions = append(c.Actions, r.action())
		default:
			break parts
		}
	}
	r.Close()
	return c
}

// newName is the next word, which must be a name that is not among those so far, and goes there.
func (r *reader) newName(names *[]string, most int) api.Token {
	name := r.Name()
	words.Must(len(*names) < most, name.At, api.ErrFull)
	words.Must(!slices.Contains(*names, name.Text), name.At, api.ErrTwice)
	*names = append(*names, name.Text)
	return name
}

func (r *reader) step() api.Step {
	s := api.Step{Initial: r.Sees("INITIAL_STEP")}
	r.Skip()
	name := r.newName(&r.steps, api.MaxSteps)
	s.At, s.Name = name.At, name.Text
	r.Want(":")
	for link := range r.links {
		s.Links = append(s.Links, link)
	}
	r.Want("END_STEP")
	return s
}

// links yields those of a step, up to the first word that begins none.
func (r *reader) links(yield func(api.Link) bool) {
	for count := 0; r.Peek().Kind == api.TokName; count++ {
		words.Must(count < api.MaxLinks, r.Peek().At, api.ErrFull)
		link := r.link()
		r.Want(";")
		if !yield(link) {
			return
		}
	}
}

func (r *reader) link() api.Link {
	name := r.Name()
	link := api.Link{At: name.At, Name: name.Text}
	r.Want("(")
	qual := r.Name()
	link.Qual = qual.Text
	timed := isTimed(qual.Text)
	words.Must(timed || isPlain(qual.Text), qual.At, api.ErrQual)
	if r.Takes(",") {
		t := r.Token(api.TokLit)
		link.Time = int(t.Value.Bits)
		words.Must(timed && t.Value.Kind == api.KTime && link.Time >= 0, t.At, api.ErrQual)
	} else if r.Sees(")") {
		words.Must(!timed, r.Peek().At, api.ErrQual)
	}
	r.Want(")")
	return link
}

func (r *reader) transition() api.Trans {
	t := api.Trans{At: r.Peek().At}
	r.Want("TRANSITION")
	if r.Peek().Kind == api.TokName {
		t.Name = r.Name().Text
	}
	r.Want("FROM")
	t.From = r.side()
	r.Want("TO")
	t.To = r.side()
	r.Want(":=")
	t.Cond = r.expr()
	r.Want(";")
	r.Want("END_TRANSITION")
	return t
}

// side is the steps on a side of a transition.
func (r *reader) side() []string {
	var l []string
	several := r.Takes("(")
	r.newName(&l, api.MaxLinks)
	for several && r.Takes(",") {
		r.newName(&l, api.MaxLinks)
	}
	if several {
		r.Want(")")
	}
	return l
}

func (r *reader) expr() api.Expr {
	e, taken, err := st.One(r.Rest(), r.End())
	words.Pass(err)
	r.skip(taken)
	return e
}

func (r *reader) action() api.Action {
	r.Want("ACTION")
	name := r.newName(&r.actions, api.MaxSteps)
	r.Want(":")
	return api.Action{At: name.At, Name: name.Text, Body: r.body()}
}

// body is the statements up to the first END_ACTION. Also where there is none they are read: a fault of theirs stands further left than the end, where it is missing.
func (r *reader) body() []api.Stmt {
	rest, end := r.Rest(), r.End()
	if count := slices.IndexFunc(rest, isActionEnd); count >= 0 {
		rest, end = rest[:count], rest[count].At
	}
	l, err := st.Body(rest, end)
	words.Pass(err)
	r.skip(len(rest))
	r.Want("END_ACTION")
	return l
}

func isActionEnd(t api.Token) bool { return words.Is(t, "END_ACTION") }

func (r *reader) skip(count int) {
	for range count {
		r.Skip()
	}
}
