package core_test

import (
	"strconv"
	"strings"

	"relay/api"
	"relay/value"
)

// writer writes typed trees; fields that have no business in a part are shown too, so that two trees with one text are one.
type writer struct{ places bool }

func (w writer) at(at int) string {
	if !w.places {
		return ""
	}
	return strconv.Itoa(at) + ":"
}

var areas = map[int]string{api.AreaThis: "T", api.AreaGlobal: "G", api.AreaRef: "R"}

var signs = []string{"", "+", "-", "*", "/", "MOD", "AND", "OR", "XOR", "=", "<>", "<", "<=", ">", ">="}

func cell(area, ref int) string { return "@" + areas[area] + strconv.Itoa(ref) }

func kind(k api.Kind) string {
	if k == api.KRef {
		return "REF"
	}
	return value.Word(k)
}

func (w writer) expr(e api.Expr) string {
	at := w.at(e.At)
	l := make([]string, len(e.Kids))
	for i, k := range e.Kids {
		l[i] = w.expr(k)
	}
	text := ""
	clear := func(fields ...any) {
		for _, f := range fields {
			switch p := f.(type) {
			case *int:
				*p = 0
			case *string:
				*p = ""
			}
		}
	}
	switch {
	case e.Op >= api.OpAdd && e.Op <= api.OpGe && len(l) == 2:
		text = "(" + l[0] + " " + at + signs[e.Op] + " " + l[1] + "):" + kind(e.Kind)
	case e.Op == api.OpNeg && len(l) == 1:
		text = "(" + at + "-" + l[0] + "):" + kind(e.Kind)
	case e.Op == api.OpNot && len(l) == 1:
		text = "(" + at + "NOT " + l[0] + "):" + kind(e.Kind)
	case e.Op == api.ExLit && e.Kind == e.Value.Kind:
		text = at + kind(e.Kind) + "#" + value.Print(e.Value)
		e.Value = api.Value{}
	case e.Op == api.ExName:
		text = at + e.Name + ":" + kind(e.Kind) + cell(e.Area, e.Ref)
		clear(&e.Name, &e.Area, &e.Ref)
	case e.Op == api.ExIndex && len(l) == 1:
		text = at + e.Name + "[" + l[0] + "]:" + kind(e.Kind) + cell(e.Area, e.Ref) + "(" + strconv.Itoa(e.From) + ".." + strconv.Itoa(e.To) + ")"
		clear(&e.Name, &e.Area, &e.Ref, &e.From, &e.To)
	case e.Op == api.ExField:
		text = at + e.Name + "." + e.Field + ":" + kind(e.Kind) + cell(e.Area, e.Ref)
		clear(&e.Name, &e.Field, &e.Area, &e.Ref)
	case e.Op == api.ExConv && len(l) == 1:
		text = at + "TO " + kind(e.Kind) + "(" + l[0] + ")"
	case e.Op == api.ExRef && len(l) == 1 && e.Kind == api.KRef:
		text = at + "&" + l[0]
	case e.Op == api.ExParam && len(l) == 1:
		text = at + strconv.Itoa(e.Ref) + ":" + kind(e.Kind) + bounds(e) + "=" + l[0]
		clear(&e.Ref, &e.Area, &e.From, &e.To)
	case e.Op == api.ExCall && e.Area == api.AreaGlobal:
		text = at + e.Name + "#" + strconv.Itoa(e.Ref) + "@" + strconv.Itoa(e.From) + "{" + strings.Join(l, ", ") + "}:" + kind(e.Kind)
		clear(&e.Name, &e.Area, &e.Ref, &e.From)
	case e.Op == api.ExCall:
		text = at + e.Name + "#" + strconv.Itoa(e.Ref) + "(" + strings.Join(l, ", ") + "):" + kind(e.Kind)
		clear(&e.Name, &e.Ref)
	default:
		text = "?" + strconv.Itoa(e.Op) + "(" + strings.Join(l, ", ") + "):" + kind(e.Kind)
	}
	if e.Name+e.Field != "" || e.Value != (api.Value{}) || len(e.Names) > 0 || e.Area != 0 || e.Ref != 0 || e.From != 0 || e.To != 0 {
		text += "!odd"
	}
	return text
}

// bounds is the bounds of a parameter.
func bounds(e api.Expr) string {
	switch e.Area {
	case 0:
		return ""
	case 1:
		return "(" + strconv.Itoa(e.From) + ".." + strconv.Itoa(e.To) + ")"
	}
	return "[" + strconv.Itoa(e.From) + ".." + strconv.Itoa(e.To) + " bytes]"
}

func (w writer) stmts(l []api.Stmt) string {
	texts := make([]string, len(l))
	for i, s := range l {
		texts[i] = w.at(s.At) + w.stmt(s)
	}
	return strings.Join(texts, "; ")
}

func (w writer) ranges(l []api.Range) string {
	text := ""
	for _, r := range l {
		text += " " + strconv.Itoa(r.Lo) + ".." + strconv.Itoa(r.Hi)
	}
	return text
}

func (w writer) stmt(s api.Stmt) string {
	l := make([]string, len(s.Exprs))
	for i, e := range s.Exprs {
		l[i] = w.expr(e)
	}
	text := ""
	body, other := w.stmts(s.Body), w.stmts(s.Else)
	switch {
	case s.Op == api.StSet && len(l) == 2 && s.Kind == s.Exprs[0].Kind:
		text = l[0] + " := " + l[1] + w.ranges(s.Ranges)
		if s.Num != 0 {
			text += " " + strconv.Itoa(s.Num) + " bytes"
		}
		s.Kind, s.Ranges, s.Num = 0, nil, 0
	case s.Op == api.StIf && len(l) == 1:
		text = "IF " + l[0] + " {" + body + "} {" + other + "}"
		s.Body, s.Else = nil, nil
	case s.Op == api.StCase && len(l) == 1:
		text = "CASE " + l[0] + " {" + body + "} {" + other + "}"
		s.Body, s.Else = nil, nil
	case s.Op == api.StArm && len(l) == 0:
		text = "OF" + w.ranges(s.Ranges) + " {" + body + "}"
		s.Body, s.Ranges = nil, nil
	case s.Op == api.StFor && len(l) == 2:
		text = "FOR " + s.Name + ":" + kind(s.Kind) + cell(s.Area, s.Ref) + " " + l[0] + " by " + l[1] + " x " + strconv.Itoa(s.Num) + " {" + body + "}"
		s.Name, s.Kind, s.Area, s.Ref, s.Num, s.Body = "", 0, 0, 0, 0, nil
	case s.Op == api.StWhile && len(l) == 1:
		text = "WHILE " + l[0] + " x " + strconv.Itoa(s.Num) + " {" + body + "}"
		s.Num, s.Body = 0, nil
	case s.Op == api.StRepeat && len(l) == 1:
		text = "REPEAT {" + body + "} " + l[0] + " x " + strconv.Itoa(s.Num)
		s.Num, s.Body = 0, nil
	case s.Op == api.StCall && len(l) == 0:
		text = "CALL " + s.Name + cell(s.Area, s.Ref) + " #" + strconv.Itoa(s.Num)
		s.Name, s.Area, s.Ref, s.Num = "", 0, 0, 0
	case s.Op == api.StLabel && len(l) == 0:
		text = s.Name + ":"
		s.Name = ""
	case s.Op == api.StJump && len(l) < 2:
		text = "JUMP " + s.Name + " " + strings.Join(l, "")
		s.Name = ""
	case len(l) == 0 && (s.Op == api.StExit || s.Op == api.StReturn || s.Op == api.StEmpty):
		text = map[int]string{api.StExit: "EXIT", api.StReturn: "RETURN", api.StEmpty: "EMPTY"}[s.Op]
	default:
		text = "?" + strconv.Itoa(s.Op)
	}
	if s.Name != "" || s.Num != 0 || len(s.Names)+len(s.Outs)+len(s.OutNames)+len(s.Ranges)+len(s.Body)+len(s.Else) > 0 || s.Kind != 0 || s.Area != 0 || s.Ref != 0 {
		text += "!odd"
	}
	return text
}

func typed(l []api.Stmt) string  { return writer{}.stmts(l) }
func placed(l []api.Stmt) string { return writer{places: true}.stmts(l) }

func itoa(n int) string { return strconv.Itoa(n) }
