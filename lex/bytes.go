package lex

import "strings"

func isBlank(c byte) bool  { return c == ' ' || c == '\t' || c == '\n' || c == '\r' }
func isDigit(c byte) bool  { return c >= '0' && c <= '9' }
func isLetter(c byte) bool { return c >= 'A' && c <= 'Z' || c >= 'a' && c <= 'z' }

func isNameByte(c byte) bool { return isLetter(c) || isDigit(c) || c == '_' }
func isKindByte(c byte) bool { return isLetter(c) || c == '_' }
func isTimeByte(c byte) bool { return isNameByte(c) || c == '.' || c == ':' || c == '-' }

func capital(c byte) byte {
	if c >= 'a' && c <= 'z' {
		return c - 'a' + 'A'
	}
	return c
}

// capitals leaves all bytes as they are but the letters from a to z: a source need not be well-formed in any other alphabet.
func capitals(s string) string {
	l := []byte(s)
	for i := range l {
		l[i] = capital(l[i])
	}
	return string(l)
}

// digitOf is what a byte counts as a digit; 16 if it is none.
func digitOf(c byte) int {
	switch c = capital(c); {
	case isDigit(c):
		return int(c - '0')
	case c >= 'A' && c <= 'F':
		return int(c-'A') + 10
	}
	return 16
}

// byteAt is a text's byte, and behind its end 0, which no word has.
func byteAt(s string, i int) byte {
	if i < len(s) {
		return s[i]
	}
	return 0
}

// runEnd is the place behind the longest run of such bytes.
func runEnd(s string, i int, is func(byte) bool) int {
	for i < len(s) && is(s[i]) {
		i++
	}
	return i
}

// squeezed is a text without blanks at its ends, and with one for each run of them within.
func squeezed(s string) string {
	return strings.Join(strings.FieldsFunc(s, func(r rune) bool { return r < 128 && isBlank(byte(r)) }), " ")
}
