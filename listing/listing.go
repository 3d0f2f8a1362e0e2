// Package listing writes instructions as texts, and reads them, for tests of the layers that make instructions. Each field that is not zero is shown, so that two codes with one text have the same instructions and loops.
package listing

import (
	"slices"
	"strconv"
	"strings"

	"relay/api"
	"relay/value"
)

// codes is the words of instructions, by their Codes.
func codes() []string {
	return []string{
		"", "const", "move", "load", "store", "loadx", "storex", "ref", "refx", "do", "turn", "conv", "arg", "std", "check", "text",
		"jump", "unless", "call", "block", "fault", "return", "spill", "fill",
	}
}

// operations is the words of operations, by their numbers.
func operations() []string {
	return []string{"", "add", "sub", "mul", "div", "mod", "and", "or", "xor", "eq", "ne", "lt", "le", "gt", "ge", "neg", "not"}
}

// between parts an instruction from the next one; loops stand behind them all, each as the word loop, Head, End and Times.
const between = "; "

// Text is the text of a code's instructions and loops: "load B1 C3; const A1 INT#1; do A2 C1 add; store A2 B1 C3; return".
func Text(f api.Flat) string {
	var l []string
	for _, o := range f.Ops {
		l = append(l, opText(o))
	}
	for _, x := range f.Loops {
		l = append(l, "loop "+strconv.Itoa(x.Head)+" "+strconv.Itoa(x.End)+" "+strconv.Itoa(x.Times))
	}
	return strings.Join(l, between)
}

func opText(o api.Op) string {
	text := "?" + strconv.Itoa(o.Code)
	if o.Code > 0 && o.Code < api.NumIr {
		text = codes()[o.Code]
	}
	text += field("A", o.A) + field("B", o.B) + field("C", o.C) + meaningOf(o) + field("L", o.Lo) + field("H", o.Hi)
	if o.Value != (api.Value{}) {
		text += " " + valueText(o.Value)
	}
	return text
}

func field(letter string, n int) string {
	if n == 0 {
		return ""
	}
	return " " + letter + strconv.Itoa(n)
}

// meaningOf is the field D, which may be an operation or a kind.
func meaningOf(o api.Op) string {
	switch {
	case (o.Code == api.IrDo || o.Code == api.IrTurn) && o.D > 0 && o.D < api.NumOps:
		return " " + operations()[o.D]
	case o.Code == api.IrConv && o.D > 0 && o.D < int(api.KRef):
		return " " + value.Word(api.Kind(o.D))
	}
	return field("D", o.D)
}

// refWord is the word of references, which have none elsewhere.
const refWord = "REF"

func valueText(v api.Value) string {
	switch {
	case v.Kind == api.KRef && v.Text == "":
		return refWord + "#" + strconv.FormatUint(v.Bits, 10)
	case v == value.Bool(true):
		return "TRUE"
	case v == value.Bool(false):
		return "FALSE"
	case v.Kind >= api.KSint && v.Kind <= api.KLint && v.Text == "":
		return value.Word(v.Kind) + "#" + strconv.FormatInt(int64(v.Bits), 10)
	case v.Bits == 0 && v.Text != "":
		return value.Word(v.Kind) + "'" + v.Text
	}
	return value.Word(v.Kind) + "#" + strconv.FormatUint(v.Bits, 10) + v.Text
}

// Read is the code of a text as Text writes it (values' texts without blanks), with instructions and loops alone; false, if it is none.
func Read(text string) (api.Flat, bool) {
	var f api.Flat
	for _, part := range strings.Split(text, between) {
		word, rest, _ := strings.Cut(part, " ")
		fields := strings.Fields(rest)
		if word == "loop" {
			l, is := readLoop(fields)
			if !is {
				return api.Flat{}, false
			}
			f.Loops = append(f.Loops, l)
			continue
		}
		o := api.Op{Code: slices.Index(codes(), word)}
		if o.Code < 1 || !readFields(&o, fields) {
			return api.Flat{}, false
		}
		f.Ops = append(f.Ops, o)
	}
	return f, true
}

func readLoop(fields []string) (api.Loop, bool) {
	var n [3]int
	if len(fields) != len(n) {
		return api.Loop{}, false
	}
	for i, s := range fields {
		x, err := strconv.Atoi(s)
		if err != nil {
			return api.Loop{}, false
		}
		n[i] = x
	}
	return api.Loop{Head: n[0], End: n[1], Times: n[2]}, true
}

func readFields(o *api.Op, fields []string) bool {
	for _, s := range fields {
		if k, is := value.Kind(s); is {
			o.D = int(k)
			continue
		}
		if op := slices.Index(operations(), s); op > 0 {
			o.D = op
			continue
		}
		if v, is := readValue(s); is {
			o.Value = v
			continue
		}
		n, err := strconv.Atoi(s[1:])
		if err != nil || !setField(o, s[0], n) {
			return false
		}
	}
	return true
}

func setField(o *api.Op, letter byte, n int) bool {
	switch letter {
	case 'A':
		o.A = n
	case 'B':
		o.B = n
	case 'C':
		o.C = n
	case 'D':
		o.D = n
	case 'L':
		o.Lo = n
	case 'H':
		o.Hi = n
	default:
		return false
	}
	return true
}

func readValue(s string) (api.Value, bool) {
	switch s {
	case "TRUE", "FALSE":
		return value.Bool(s == "TRUE"), true
	}
	if word, text, is := strings.Cut(s, "'"); is {
		k, is := value.Kind(word)
		return api.Value{Kind: k, Text: text}, is
	}
	word, digits, _ := strings.Cut(s, "#")
	k, is := value.Kind(word)
	if word == refWord {
		k, is = api.KRef, true
	}
	bits, err := strconv.ParseUint(digits, 10, 64)
	if n, below := strconv.ParseInt(digits, 10, 64); below == nil {
		bits, err = uint64(n), nil
	}
	return api.Value{Kind: k, Bits: bits}, is && err == nil
}
