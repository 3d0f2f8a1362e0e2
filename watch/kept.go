package watch

import (
	"bytes"

	"relay/api"
)

// How many bytes of a number there are.
const (
	shortBytes = 2
	bitsBytes  = 8
	// A value's kind, bits, and how long its text is.
	valueBytes = 1 + bitsBytes + 1
)

// Save is what is kept over a warm start, as bytes; Load puts it back.
func (p *Panel) Save() []byte {
	if !p.isMade() {
		return nil
	}
	b, all := p.head(), p.resource.Cells()
	for _, cell := range p.kept() {
		v := all[cell]
		b = append(number(append(b, byte(v.Kind)), v.Bits, bitsBytes), byte(len(v.Text)))
		b = append(b, v.Text...)
	}
	return b
}

func (p *Panel) Load(b []byte) api.Errno {
	switch {
	case !p.isMade():
		return api.ErrNil
	case p.resource.Mode() == api.ModeRun:
		return api.ErrState
	}
	l, is := p.read(b)
	if !is {
		return api.ErrKept
	}
	for i, cell := range p.kept() {
		p.resource.Poke(cell, l[i])
	}
	p.hold()
	return api.OK
}

// kept is the cells that are kept.
func (p *Panel) kept() []int {
	var l []int
	for cell, c := range p.cells {
		if c.Keep {
			l = append(l, cell)
		}
	}
	return l
}

// head is how such bytes begin.
func (p *Panel) head() []byte {
	return number([]byte{0x72, 0x6b}, uint64(len(p.kept())), shortBytes)
}

// number is bytes with a number of so many bytes behind them.
func number(b []byte, n uint64, size int) []byte {
	for i := size - 1; i >= 0; i-- {
		b = append(b, byte(n>>(8*i)))
	}
	return b
}

// read is the values that such bytes keep, and whether they are for the cells that are kept.
func (p *Panel) read(b []byte) ([]api.Value, bool) {
	b, is := bytes.CutPrefix(b, p.head())
	if !is {
		return nil, false
	}
	var l []api.Value
	for _, cell := range p.kept() {
		v, behind, is := first(b)
		if !is || !fits(p.cells[cell], v) {
			return nil, false
		}
		l, b = append(l, v), behind
	}
	return l, len(b) == 0
}

// first is the value that bytes begin with, and those behind it.
func first(b []byte) (api.Value, []byte, bool) {
	if len(b) < valueBytes {
		return api.Value{}, nil, false
	}
	v, text, size := api.Value{Kind: api.Kind(b[0])}, b[valueBytes:], int(b[valueBytes-1])
	if len(text) < size {
		return api.Value{}, nil, false
	}
	for _, x := range b[1 : 1+bitsBytes] {
		v.Bits = v.Bits<<8 | uint64(x)
	}
	v.Text = string(text[:size])
	return v, text[size:], true
}
