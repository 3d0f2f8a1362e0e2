package value

import (
	"math"
	"strconv"
	"strings"

	"relay/api"
)

const (
	trueWord  = "TRUE"
	falseWord = "FALSE"
	hexMark   = "16#"
)

// Kinds' words, by their numbers.
var words = [...]string{
	"", "BOOL", "SINT", "INT", "DINT", "LINT", "USINT", "UINT", "UDINT", "ULINT",
	"BYTE", "WORD", "DWORD", "LWORD", "TIME", "DATE", "TOD", "DT", "LREAL", "STRING",
}

// Word is a kind's word.
func Word(k api.Kind) string {
	if !isKind(k) {
		return ""
	}
	return words[k]
}

// Kind is the kind of a word.
func Kind(s string) (api.Kind, bool) {
	for k := api.KBool; k <= api.KString; k++ {
		if words[k] == s {
			return k, true
		}
	}
	return api.KNone, false
}

// Print is a value's text.
func Print(v api.Value) string {
	switch {
	case !May(v):
		return ""
	case v.Kind == api.KBool && v.Bits == 1:
		return trueWord
	case v.Kind == api.KBool:
		return falseWord
	case v.Kind == api.KString:
		return v.Text
	case v.Kind == api.KLreal:
		digits := hexDigits(v.Bits)
		return hexMark + strings.Repeat("0", 16-len(digits)) + digits
	case isRow(v.Kind):
		return hexMark + hexDigits(v.Bits)
	}
	return printNumber(numberOf(v))
}

func hexDigits(n uint64) string { return strings.ToUpper(strconv.FormatUint(n, 16)) }

func printNumber(n number) string {
	if n.below {
		return "-" + strconv.FormatUint(n.size, 10)
	}
	return strconv.FormatUint(n.size, 10)
}

// readNumber takes just what printNumber gives: no sign but -, no nought ahead, no -0.
func readNumber(s string) (number, bool) {
	digits, below := strings.CutPrefix(s, "-")
	if digits == "" || digits[0] == '0' && s != "0" {
		return number{}, false
	}
	var size uint64
	for i := range len(digits) {
		if digits[i] < '0' || digits[i] > '9' {
			return number{}, false
		}
		digit := uint64(digits[i] - '0')
		if size > (math.MaxUint64-digit)/10 {
			return number{}, false
		}
		size = size*10 + digit
	}
	return number{below, size}, true
}
