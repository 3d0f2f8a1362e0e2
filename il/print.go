package il

import (
	"strings"

	"relay/api"
	"relay/st"
)

// form is instructions' text. What has none is left out, or is written as it is: then the text is not read as the same.
func form(l []api.IlInstr) string {
	var b strings.Builder
	for _, in := range l {
		// A longer text is read by nobody.
		if b.Len() > api.MaxSource {
			break
		}
		b.WriteString(lineForm(in))
	}
	return b.String()
}

func lineForm(in api.IlInstr) string {
	ahead := " "
	if in.Label != "" {
		ahead = in.Label + ":"
	}
	if in.Op == "" {
		return ahead + "\n"
	}
	line := ahead + " " + word(in)
	if wanted := wantedForm(in); wanted != "" {
		line += " " + wanted
	}
	return line + "\n"
}

// wantedForm is the text of what an instruction's operator wants.
func wantedForm(in api.IlInstr) string {
	switch in.Op {
	case opJump:
		return in.Name
	case opCall:
		return strings.TrimSuffix(st.Print([]api.Stmt{call(in)}), ";\n")
	}
	var b strings.Builder
	for i, e := range in.Args {
		if b.Len() > api.MaxSource {
			break
		}
		if i > 0 {
			b.WriteString(", ")
		}
		b.WriteString(st.PrintExpr(e))
	}
	return b.String()
}
