package lex

import (
	"relay/api"
	"relay/value"
)

// textEnd is the place behind the ' that ends the text at i.
func (s *scanner) textEnd(i int) int {
	for end := i + 1; end < len(s.src); end++ {
		switch s.src[end] {
		case '$':
			// It takes the byte behind it along.
			end++
		case '\'':
			return end + 1
		}
	}
	s.fail(i, api.ErrOpen)
	return 0
}

// text is the value of the text from i up to end, a part of the word that begins at s.at.
func (s *scanner) text(i, end int) api.Value {
	inner := s.src[i+1 : end-1]
	var l []byte
	for k := 0; k < len(inner); k++ {
		c := inner[k]
		s.must(c >= ' ', s.at)
		if c == '$' {
			said, count := escaped(inner[k+1:])
			s.must(count > 0, s.at)
			c = said
			k += count
		}
		l = append(l, c)
	}
	v, fault := value.Text(string(l))
	s.must(fault == api.FaultNone, s.at)
	return v
}

// escaped is the byte that stands for what is behind a $, and how many bytes that is; 0, if they say none.
func escaped(s string) (byte, int) {
	switch capital(byteAt(s, 0)) {
	case '$':
		return '$', 1
	case '\'':
		return '\'', 1
	case 'L', 'N':
		return '\n', 1
	case 'P':
		return '\f', 1
	case 'R':
		return '\r', 1
	case 'T':
		return '\t', 1
	}
	high, low := digitOf(byteAt(s, 0)), digitOf(byteAt(s, 1))
	if high > 15 || low > 15 {
		return 0, 0
	}
	return byte(high<<4 | low), 2
}
