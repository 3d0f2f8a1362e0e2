package alloc

import "math/bits"

// How many registers a set has room for.
const (
	wordBits = 64
	setWords = 4
	setSize  = setWords * wordBits
)

// set is some of setSize registers, a bit each. Sets are compared whole: one that stays as it was needs no further look.
type set [setWords]uint64

func (s *set) add(reg int)  { s[reg/wordBits] |= 1 << (reg % wordBits) }
func (s *set) drop(reg int) { s[reg/wordBits] &^= 1 << (reg % wordBits) }

// with is the registers of both sets together.
func (s set) with(t set) set {
	for i := range s {
		s[i] |= t[i]
	}
	return s
}

// without is the registers of s that are not in t.
func (s set) without(t set) set {
	for i := range s {
		s[i] &^= t[i]
	}
	return s
}

func (s set) count() int {
	n := 0
	for _, word := range s {
		n += bits.OnesCount64(word)
	}
	return n
}

// all goes through the registers, rising.
func (s set) all(yield func(reg int) bool) {
	for i, word := range s {
		for ; word != 0; word &= word - 1 {
			if !yield(i*wordBits + bits.TrailingZeros64(word)) {
				return
			}
		}
	}
}
