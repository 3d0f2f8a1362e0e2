package plc

import (
	"errors"

	"relay/api"
	"relay/graph"
	"relay/graphcore"
	"relay/il"
	"relay/ilcore"
	"relay/sfc"
	"relay/sfccore"
	"relay/st"
)

// mostVars is how many variables a POU has at most, hidden ones among them.
const mostVars = api.MaxVars + 192

// faultOf is the fault that a layer below has told.
func faultOf(err error) api.Fault {
	var fault api.Fault
	errors.As(err, &fault)
	return fault
}

// told is that fault, of a source.
func told(source int, err error) api.Diag {
	return api.Diag{Source: source, Fault: faultOf(err)}
}

// bodiesOf is the statements of all POUs of a project, which gets the hidden variables that these need; or of each source its first fault.
func bodiesOf(p *api.Project) ([][]api.Stmt, []api.Diag) {
	var bodies [][]api.Stmt
	var faults []api.Diag
	for i := range p.Pous {
		u := &p.Pous[i]
		// POUs stand in the order of their sources.
		if n := len(faults); n > 0 && faults[n-1].Source == u.Source {
			continue
		}
		body, err := bodyOf(u)
		if err != nil {
			faults = append(faults, told(u.Source, err))
		}
		bodies = append(bodies, body)
	}
	return bodies, faults
}

// bodyOf is a POU's statements, at their places in the source. The POU gets the hidden variables that they need.
func bodyOf(u *api.Pou) ([]api.Stmt, error) {
	body, hidden, err := statements(*u)
	if err != nil {
		fault := faultOf(err)
		fault.At += u.From
		return nil, fault
	}
	if len(u.Vars)+len(hidden) > mostVars {
		return nil, api.Fault{At: u.At, Why: api.ErrFull}
	}
	u.Vars = append(u.Vars, hidden...)
	moveStmts(body, u.From)
	return body, nil
}

// statements is what a POU's text says in its language, and the hidden variables that this needs. Places are those in the text.
func statements(u api.Pou) ([]api.Stmt, []api.Var, error) {
	switch u.Lang {
	case api.LangIL:
		return turned(u.Text, il.Parse, ilcore.Trees)
	case api.LangLD:
		return turned(u.Text, graph.Ladder, graphcore.Ladder)
	case api.LangFBD:
		return turned(u.Text, graph.Networks, graphcore.Networks)
	case api.LangSFC:
		return turned(u.Text, sfc.Parse, sfccore.Chart)
	}
	body, err := st.Parse(u.Text)
	return body, nil, err
}

// turned is what is read from a text, as statements.
func turned[T any](text string, read func(string) (T, error), turn func(T) ([]api.Stmt, []api.Var, error)) ([]api.Stmt, []api.Var, error) {
	tree, err := read(text)
	if err != nil {
		return nil, nil, err
	}
	return turn(tree)
}

// moveStmts moves the places of all that stands in statements.
func moveStmts(l []api.Stmt, by int) {
	for i := range l {
		s := &l[i]
		s.At += by
		moveExprs(s.Exprs, by)
		moveExprs(s.Outs, by)
		moveStmts(s.Body, by)
		moveStmts(s.Else, by)
	}
}

func moveExprs(l []api.Expr, by int) {
	for i := range l {
		l[i].At += by
		moveExprs(l[i].Kids, by)
	}
}
