package graph

import (
	"relay/api"
	"relay/words"
)

// reader reads ladders and networks.
type reader struct {
	words.Reader
	deep  int                 // brackets begun and not ended
	names map[string]struct{} // of the functions' nodes of the network that is read
}

func (r *reader) rung() api.Rung {
	rung := api.Rung{At: r.Peek().At}
	r.Want("RUNG")
	for e := range r.contacts {
		rung.Contacts = append(rung.Contacts, e)
	}
	r.Want("=>")
	for e := range r.coils {
		rung.Coils = append(rung.Coils, e)
	}
	r.Want(";")
	return rung
}

// contacts yields those of a series, up to the first word that begins none.
func (r *reader) contacts(yield func(api.Element) bool) {
	for {
		var e api.Element
		switch {
		case r.Sees("["):
			e = r.branches()
		case r.Peek().Kind == api.TokName, markOf(r.Peek()) > 0:
			e = r.marked(api.LdOpen)
		default:
			return
		}
		if !yield(e) {
			return
		}
	}
}

// coils yields coils with "," between.
func (r *reader) coils(yield func(api.Element) bool) {
	for yield(r.marked(api.LdCoil)) && r.Takes(",") {
	}
}

// branches reads brackets, and the series between them.
func (r *reader) branches() api.Element {
	e := api.Element{Op: api.LdBranches, At: r.Peek().At}
	words.Must(r.deep < api.MaxDeep, e.At, api.ErrDeep)
	r.deep++
	r.Want("[")
series:
	for {
		var branch []api.Element
		for c := range r.contacts {
			branch = append(branch, c)
		}
		e.Branches = append(e.Branches, branch)
		switch {
		case r.Takes("|"):
		case r.Takes("]"):
			break series
		default:
			words.Fail(r.Peek().At, api.ErrToken)
		}
	}
	r.deep--
	return e
}

// marked is an item, perhaps with a mark ahead; its Op lies so far behind the plain one as the mark says.
func (r *reader) marked(plain int) api.Element {
	e := api.Element{Op: plain, At: r.Peek().At}
	if mark := markOf(r.Peek()); mark > 0 {
		e.Op += mark
		r.Skip()
	}
	name, field := r.item()
	e.Name = name.Text
	if field != "" {
		e.Name += "." + field
	}
	return e
}

// item is a name, and the one behind its point; empty, if there is none.
func (r *reader) item() (name api.Token, field string) {
	name = r.Name()
	if r.Takes(".") {
		field = r.Name().Text
	}
	return name, field
}

// marks stand ahead of items: of contacts and of coils each is so many Ops behind the plain one.
var marks = [...]string{"", "!", "+", "-"}

// markOf is which of the marks a word is; 0, if it is none.
func markOf(t api.Token) int {
	for i := 1; i < len(marks); i++ {
		if words.Is(t, marks[i]) {
			return i
		}
	}
	return 0
}
