package times

import (
	"math"
	"strings"
)

// unit is what a part of a span counts: in capitals, its nanoseconds, and how many of them make the next greater one.
type unit struct {
	name  string
	nanos int
	below int
}

// From the greatest on, as they follow one another in a span. No part stands ahead of days, so that nothing bounds them.
var units = [...]unit{
	{"D", day, math.MaxInt},
	{"H", hour, 24},
	{"M", minute, 60},
	{"S", second, 60},
	{"MS", 1000000, 1000},
	{"US", 1000, 1000},
	{"NS", 1, 1000},
}

func isDigit(c byte) bool { return c >= '0' && c <= '9' }

func isLetter(c byte) bool { return c >= 'a' && c <= 'z' || c >= 'A' && c <= 'Z' }

// cut parts a text behind the bytes at its beginning that are such.
func cut(s string, is func(byte) bool) (string, string) {
	end := 0
	for end < len(s) && is(s[end]) {
		end++
	}
	return s[:end], s[end:]
}

// readNumber is the number of digits, if an int has it; noughts ahead are nothing.
func readNumber(digits string) (int, bool) {
	n := 0
	for i := range len(digits) {
		digit := int(digits[i] - '0')
		if n > (math.MaxInt-digit)/10 {
			return 0, false
		}
		n = n*10 + digit
	}
	return n, digits != ""
}

// findUnit is the number of the unit of a name, among those from a number on.
func findUnit(name string, from int) (int, bool) {
	for i := from; i < len(units); i++ {
		if units[i].name == name {
			return i, true
		}
	}
	return 0, false
}

func readSpan(s string) (int, bool) {
	s, below := strings.CutPrefix(s, "-")
	span, next := 0, 0
	for {
		p, rest := cutPart(s)
		i, ok := findUnit(strings.ToUpper(p.unit), next)
		if !ok || p.dot && rest != "" {
			return 0, false
		}
		n, ok := p.nanos(units[i], next == 0)
		if !ok || n > math.MaxInt-span {
			return 0, false
		}
		span += n
		if rest == "" {
			break
		}
		s, next = strings.TrimPrefix(rest, "_"), i+1
	}
	if below {
		return -span, true
	}
	return span, true
}

// part is a part of a span: its digits ahead of the dot and behind it, and its unit's letters.
type part struct {
	whole, behind string
	dot           bool
	unit          string
}

// cutPart is as much of a part as a text begins with, and what stands behind it.
func cutPart(s string) (part, string) {
	var p part
	p.whole, s = cut(s, isDigit)
	s, p.dot = strings.CutPrefix(s, ".")
	if p.dot {
		p.behind, s = cut(s, isDigit)
	}
	p.unit, s = cut(s, isLetter)
	return p, s
}

// nanos is how long a part is that counts such units, if it may stand there and an int has it.
func (p part) nanos(u unit, first bool) (int, bool) {
	whole, ok := readNumber(p.whole)
	behind, exact := readFraction(p.behind, u.nanos)
	switch {
	case !ok || !exact, p.dot && p.behind == "", !first && whole >= u.below, whole > (math.MaxInt-behind)/u.nanos:
		return 0, false
	}
	return whole*u.nanos + behind, true
}

// readFraction is how many of a unit's nanoseconds the digits behind a dot say, if they say a whole number of them. It begins at the last digit: where the sum is whole, so is what the digits from any one on come to, so that no division may leave anything.
func readFraction(digits string, nanos int) (int, bool) {
	n := 0
	for i := len(digits) - 1; i >= 0; i-- {
		n += int(digits[i]-'0') * nanos
		if n%10 != 0 {
			return 0, false
		}
		n /= 10
	}
	return n, true
}

// hasForm tells whether a text is as long as a form, with digits where the form has 0, else the form's own bytes.
func hasForm(s, form string) bool {
	if len(s) != len(form) {
		return false
	}
	for i := range len(s) {
		if form[i] == '0' && !isDigit(s[i]) || form[i] != '0' && s[i] != form[i] {
			return false
		}
	}
	return true
}

// field is the number of the digits from a place up to another one.
func field(s string, from, to int) int {
	n, _ := readNumber(s[from:to])
	return n
}

func readDate(s string) (int, bool) {
	if !hasForm(s, "0000-00-00") {
		return 0, false
	}
	days, ok := Days(field(s, 0, 4), field(s, 5, 7), field(s, 8, 10))
	return days * day, ok
}

func readClock(s string) (int, bool) {
	s, behind, dot := strings.Cut(s, ".")
	_, rest := cut(behind, isDigit)
	if !hasForm(s, "00:00:00") || rest != "" || dot && behind == "" || len(behind) > 9 {
		return 0, false
	}
	h, m, sec := field(s, 0, 2), field(s, 3, 5), field(s, 6, 8)
	nanos, ok := readFraction(behind, second)
	return h*hour + m*minute + sec*second + nanos, ok && h < 24 && m < 60 && sec < 60
}

func readBoth(s string) (int, bool) {
	const mark = len("0000-00-00")
	if len(s) <= mark || s[mark] != '-' {
		return 0, false
	}
	date, ok := readDate(s[:mark])
	clock, fine := readClock(s[mark+1:])
	return date + clock, ok && fine
}
