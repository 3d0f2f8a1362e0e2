package stdlib_test

import (
	"math"
	"math/big"
	"slices"
	"strconv"
	"strings"

	"relay/api"
	"relay/value"
)

// What the tests hold the package against: the chapter's table, written out by kinds, by numbers without bounds and by single bits and bytes.

const nanBits = 0x7ff8000000000001

// names is the chapter's table, by numbers.
var names = []string{
	"", "ADD", "SUB", "MUL", "DIV", "MOD", "AND", "OR", "XOR", "NOT", "EQ", "NE", "LT", "LE", "GT", "GE",
	"MOVE", "ABS", "MIN", "MAX", "LIMIT", "SEL", "MUX", "SHL", "SHR", "ROL", "ROR",
	"LEN", "LEFT", "RIGHT", "MID", "CONCAT", "INSERT", "DELETE", "REPLACE", "FIND", "TRUNC",
}

// many is the functions that take from 2 to MaxArgs arguments.
const many = " ADD MUL AND OR XOR EQ LT LE GT GE MIN MAX MUX CONCAT "

// formals is the others' formal names.
var formals = map[string]string{
	"SUB": "IN1 IN2", "DIV": "IN1 IN2", "MOD": "IN1 IN2", "NOT": "IN", "NE": "IN1 IN2", "MOVE": "IN", "ABS": "IN",
	"LIMIT": "MN IN MX", "SEL": "G IN0 IN1", "SHL": "IN N", "SHR": "IN N", "ROL": "IN N", "ROR": "IN N",
	"LEN": "IN", "LEFT": "IN L", "RIGHT": "IN L", "MID": "IN L P", "INSERT": "IN1 IN2 P", "DELETE": "IN L P",
	"REPLACE": "IN1 IN2 L P", "FIND": "IN1 IN2", "TRUNC": "IN",
}

// operations is chapter 1's operations by the functions' names.
var operations = map[string]int{
	"ADD": api.OpAdd, "SUB": api.OpSub, "MUL": api.OpMul, "DIV": api.OpDiv, "MOD": api.OpMod,
	"AND": api.OpAnd, "OR": api.OpOr, "XOR": api.OpXor,
	"EQ": api.OpEq, "NE": api.OpNe, "LT": api.OpLt, "LE": api.OpLe, "GT": api.OpGt, "GE": api.OpGe,
}

func integers() []api.Kind {
	return []api.Kind{api.KSint, api.KInt, api.KDint, api.KLint, api.KUsint, api.KUint, api.KUdint, api.KUlint}
}

func rows() []api.Kind { return []api.Kind{api.KByte, api.KWord, api.KDword, api.KLword} }

func kinds() []api.Kind {
	l := append([]api.Kind{api.KBool}, integers()...)
	return append(append(l, rows()...), api.KTime, api.KDate, api.KTod, api.KDt, api.KLreal, api.KString)
}

// noKinds is kinds that are none of values.
func noKinds() []api.Kind { return []api.Kind{api.KNone, api.KRef, api.NumKind, 100, 255} }

func in(k api.Kind, l ...api.Kind) bool { return slices.Contains(l, k) }

func isInteger(k api.Kind) bool { return in(k, integers()...) }
func isRow(k api.Kind) bool     { return in(k, rows()...) }

// line is what chapter 1's table has for an operation that reckons.
func line(name string, a, b api.Kind) api.Kind {
	is := func(l string) bool { return strings.Contains(" "+l+" ", " "+name+" ") }
	switch {
	case is("ADD SUB MUL DIV MOD") && a == b && isInteger(a),
		is("ADD SUB MUL DIV") && a == b && a == api.KLreal,
		is("AND OR XOR") && a == b && (a == api.KBool || isRow(a)),
		is("ADD SUB") && a == b && a == api.KTime,
		is("ADD SUB") && b == api.KTime && in(a, api.KDt, api.KTod),
		is("MUL DIV") && a == api.KTime && b == api.KLint:
		return a
	case is("SUB") && a == b && in(a, api.KDate, api.KTod, api.KDt):
		return api.KTime
	}
	return api.KNone
}

// params is the formal names of n arguments; none, if the function never takes so many.
func params(name string, n int) []string {
	if strings.Contains(many, " "+name+" ") {
		if n < 2 || n > 16 {
			return nil
		}
		var l []string
		for i := range n {
			switch {
			case name != "MUX":
				l = append(l, "IN"+strconv.Itoa(i+1))
			case i == 0:
				l = append(l, "K")
			default:
				l = append(l, "IN"+strconv.Itoa(i-1))
			}
		}
		return l
	}
	text := formals[name]
	if from, to, ok := conversion(name); ok && text == "" && (from == "" || isWord(from)) && isWord(to) {
		text = "IN"
	}
	if l := strings.Fields(text); len(l) == n {
		return l
	}
	return nil
}

// conversion is the kinds' words in a conversion's name, without the _ between.
func conversion(name string) (from, to string, ok bool) {
	if to, ok = strings.CutPrefix(name, "TO_"); ok {
		return "", to, true
	}
	return strings.Cut(name, "_TO_")
}

func isWord(s string) bool {
	_, ok := value.Kind(s)
	return ok
}

func allOne(l []api.Kind) bool {
	for _, k := range l {
		if k != l[0] {
			return false
		}
	}
	return in(l[0], kinds()...)
}

// outcome is what a function that has n formal names gives for such kinds; KNone, if it does not take them.
func outcome(name string, l []api.Kind) api.Kind {
	if len(params(name, len(l))) == 0 {
		return api.KNone
	}
	yes := func(is bool, k api.Kind) api.Kind {
		if is {
			return k
		}
		return api.KNone
	}
	switch name {
	case "ADD", "SUB", "MUL", "DIV", "MOD", "AND", "OR", "XOR":
		if len(l) == 2 {
			return line(name, l[0], l[1])
		}
		return yes(allOne(l) && line(name, l[0], l[0]) == l[0], l[0])
	case "NOT":
		return yes(l[0] == api.KBool || isRow(l[0]), l[0])
	case "EQ", "NE", "LT", "LE", "GT", "GE":
		return yes(allOne(l), api.KBool)
	case "MOVE", "MIN", "MAX", "LIMIT":
		return yes(allOne(l), l[0])
	case "ABS":
		return yes(isInteger(l[0]) || in(l[0], api.KLreal, api.KTime), l[0])
	case "SEL":
		return yes(l[0] == api.KBool && allOne(l[1:]), l[1])
	case "MUX":
		return yes(isInteger(l[0]) && allOne(l[1:]), l[1])
	case "SHL", "SHR", "ROL", "ROR":
		return yes(isRow(l[0]) && isInteger(l[1]), l[0])
	case "LEN":
		return yes(l[0] == api.KString, api.KInt)
	case "FIND":
		return yes(l[0] == api.KString && l[1] == api.KString, api.KInt)
	case "TRUNC":
		return yes(l[0] == api.KLreal, api.KLint)
	case "LEFT", "RIGHT", "MID", "CONCAT", "INSERT", "DELETE", "REPLACE":
		return yes(textual(name, l), api.KString)
	}
	from, to, _ := conversion(name)
	k, _ := value.Kind(to)
	return yes((from == "" || from == value.Word(l[0])) && converts(l[0], k), k)
}

// textual: L and P are integers, all others texts.
func textual(name string, l []api.Kind) bool {
	for i, p := range params(name, len(l)) {
		if number := p == "L" || p == "P"; number && !isInteger(l[i]) || !number && l[i] != api.KString {
			return false
		}
	}
	return true
}

// converts is chapter 1's list of conversions.
func converts(from, to api.Kind) bool {
	plain := func(k api.Kind) bool { return k == api.KBool || isInteger(k) || isRow(k) }
	time := func(k api.Kind) bool { return in(k, api.KTime, api.KDate, api.KTod, api.KDt) }
	switch {
	case !in(from, kinds()...):
		return false
	case from == to:
		return true
	case plain(from) || from == api.KLreal:
		return plain(to) || to == api.KLreal || from == api.KLint && time(to) || to == api.KString && (from == api.KBool || isInteger(from))
	case time(from):
		return to == api.KLint || from == api.KDt && in(to, api.KDate, api.KTod)
	}
	return to == api.KBool || isInteger(to)
}

// bigOf is the number of a value that may be and has one.
func bigOf(v api.Value) *big.Int {
	if in(v.Kind, api.KSint, api.KInt, api.KDint, api.KLint, api.KTime) {
		return big.NewInt(int64(v.Bits))
	}
	return new(big.Int).SetUint64(v.Bits)
}

func floatOf(v api.Value) float64 { return math.Float64frombits(v.Bits) }

func lreal(f float64) api.Value { return api.Value{Kind: api.KLreal, Bits: math.Float64bits(f)} }

func text(s string) api.Value { return api.Value{Kind: api.KString, Text: s} }

func truth(is bool) api.Value {
	if is {
		return api.Value{Kind: api.KBool, Bits: 1}
	}
	return api.Value{Kind: api.KBool}
}

// num is a number of a kind that has it.
func num(k api.Kind, n int64) api.Value { return api.Value{Kind: k, Bits: uint64(n)} }

// order is how a lies to b: -1, 0, 1, or 2, if neither is below the other nor equal to it.
func order(a, b api.Value) int {
	switch {
	case a.Kind == api.KString:
		return strings.Compare(a.Text, b.Text)
	case a.Kind != api.KLreal:
		return bigOf(a).Cmp(bigOf(b))
	case a.Bits == nanBits || b.Bits == nanBits:
		return 2
	}
	return new(big.Float).SetFloat64(floatOf(a)).Cmp(new(big.Float).SetFloat64(floatOf(b)))
}

// result is what a function gives for values of kinds that it takes.
func result(name string, args []api.Value) (api.Value, int) {
	a := args[0]
	switch name {
	case "ADD", "SUB", "MUL", "DIV", "MOD", "AND", "OR", "XOR":
		fault := 0
		for i := 1; i < len(args) && fault == 0; i++ {
			a, fault = value.Reckon(operations[name], a, args[i])
		}
		return a, fault
	case "NOT":
		return value.Turn(api.OpNot, a)
	case "MOVE":
		return a, 0
	case "ABS":
		return absolute(a)
	case "TRUNC":
		return truncated(floatOf(a))
	case "EQ", "NE", "LT", "LE", "GT", "GE":
		is := true
		for i := range len(args) - 1 {
			o := order(args[i], args[i+1])
			is = is && map[string]bool{"EQ": o == 0, "NE": o != 0, "LT": o == -1, "LE": o == -1 || o == 0, "GT": o == 1, "GE": o == 1 || o == 0}[name]
		}
		return truth(is), 0
	case "MIN", "MAX", "LIMIT", "SEL", "MUX":
		return picked(name, args)
	case "SHL", "SHR", "ROL", "ROR":
		return moved(name, a, bigOf(args[1]))
	case "LEN", "LEFT", "RIGHT", "MID", "CONCAT", "INSERT", "DELETE", "REPLACE", "FIND":
		return spelt(name, args)
	}
	_, to, _ := conversion(name)
	k, _ := value.Kind(to)
	return value.Convert(k, a)
}

func absolute(a api.Value) (api.Value, int) {
	if a.Kind == api.KLreal {
		if a.Bits != nanBits {
			a.Bits &^= 1 << 63
		}
		return a, 0
	}
	n := bigOf(a)
	if n.Sign() >= 0 {
		return a, 0
	}
	v := api.Value{Kind: a.Kind, Bits: n.Abs(n).Uint64()}
	if !value.May(v) || bigOf(v).Sign() < 0 {
		return api.Value{}, api.FaultOver
	}
	return v, 0
}

func truncated(f float64) (api.Value, int) {
	if math.IsNaN(f) || math.IsInf(f, 0) {
		return api.Value{}, api.FaultConvert
	}
	n, _ := new(big.Float).SetFloat64(f).Int(nil)
	if !n.IsInt64() {
		return api.Value{}, api.FaultConvert
	}
	return num(api.KLint, n.Int64()), 0
}

func picked(name string, args []api.Value) (api.Value, int) {
	v := args[0]
	switch name {
	case "MIN", "MAX":
		for _, x := range args {
			if o := order(x, v); name == "MIN" && o == -1 || name == "MAX" && o == 1 {
				v = x
			}
		}
	case "LIMIT":
		v = args[1]
		if order(v, args[0]) == -1 {
			v = args[0]
		}
		if order(v, args[2]) == 1 {
			v = args[2]
		}
	case "SEL":
		v = args[1+args[0].Bits]
	case "MUX":
		for i := range len(args) - 1 {
			if bigOf(args[0]).Cmp(big.NewInt(int64(i))) == 0 {
				return args[1+i], 0
			}
		}
		return api.Value{}, api.FaultRange
	}
	return v, 0
}

// moved goes bit by bit: each bit of what is given is that so many places off.
func moved(name string, a api.Value, by *big.Int) (api.Value, int) {
	if by.Sign() < 0 {
		return api.Value{}, api.FaultRange
	}
	width := []int64{8, 16, 32, 64}[slices.Index(rows(), a.Kind)]
	v := api.Value{Kind: a.Kind}
	for i := range width {
		from := new(big.Int)
		if name == "SHL" || name == "ROL" {
			from.Sub(big.NewInt(i), by)
		} else {
			from.Add(big.NewInt(i), by)
		}
		if name == "ROL" || name == "ROR" {
			from.Mod(from, big.NewInt(width))
		}
		if from.Sign() >= 0 && from.Cmp(big.NewInt(width)) < 0 {
			v.Bits |= a.Bits >> from.Uint64() & 1 << i
		}
	}
	return v, 0
}

// spelt goes byte by byte, their places counted from 1 on.
func spelt(name string, args []api.Value) (api.Value, int) {
	s, second := args[0].Text, ""
	numbers := map[string]*big.Int{"L": new(big.Int), "P": big.NewInt(1)}
	for i, p := range params(name, len(args)) {
		if p == "L" || p == "P" {
			numbers[p] = bigOf(args[i])
		}
	}
	if len(args) > 1 {
		second = args[1].Text
	}
	l, p, size := numbers["L"], numbers["P"], big.NewInt(int64(len(s)))
	switch {
	case l.Sign() < 0,
		name != "INSERT" && p.Sign() < 1,
		name == "INSERT" && (p.Sign() < 0 || p.Cmp(size) > 0),
		name == "REPLACE" && p.Cmp(new(big.Int).Add(size, big.NewInt(1))) > 0:
		return api.Value{}, api.FaultRange
	case name == "LEN":
		return num(api.KInt, int64(len(s))), 0
	case name == "FIND":
		return num(api.KInt, found(s, second)), 0
	}
	var ahead, within, behind string
	if name == "RIGHT" {
		p = new(big.Int).Sub(size, l)
		p.Add(p, big.NewInt(1))
	}
	end := new(big.Int).Add(p, l)
	for i := range len(s) {
		switch place := big.NewInt(int64(i + 1)); {
		case name == "INSERT" && place.Cmp(p) <= 0 || name != "INSERT" && place.Cmp(p) < 0:
			ahead += s[i : i+1]
		case name != "INSERT" && place.Cmp(end) < 0:
			within += s[i : i+1]
		default:
			behind += s[i : i+1]
		}
	}
	out := within
	switch name {
	case "CONCAT":
		out = ""
		for _, v := range args {
			out += v.Text
		}
	case "INSERT", "REPLACE":
		out = ahead + second + behind
	case "DELETE":
		out = ahead + behind
	}
	if len(out) > 254 {
		return api.Value{}, api.FaultText
	}
	return text(out), 0
}

func found(s, part string) int64 {
	for i := 0; i+len(part) <= len(s); i++ {
		if s[i:i+len(part)] == part {
			return int64(i + 1)
		}
	}
	return 0
}

func kindsOf(args []api.Value) []api.Kind {
	var l []api.Kind
	for _, v := range args {
		l = append(l, v.Kind)
	}
	return l
}

func show(name string, args []api.Value) string {
	s := name
	for _, v := range args {
		s += " " + value.Word(v.Kind) + "#" + strconv.Quote(value.Print(v))
	}
	return s
}
