package image

import (
	"relay/api"
	"relay/lex"
	"relay/value"
)

// mostDir is the direction of an output, the last one there is.
const mostDir = 2

// cellFlaw is the first cell that may not be.
func cellFlaw(m api.Image) flaw {
	addresses := map[string]struct{}{}
	for i, c := range m.Cells {
		if _, is := addresses[c.Addr]; is || !mayCell(c) {
			return flaw{number: i, why: api.ErrCell}
		}
		if c.Addr != "" {
			addresses[c.Addr] = struct{}{}
		}
	}
	return flaw{}
}

func mayCell(c api.Cell) bool {
	if c.Kind < api.KBool || c.Kind > api.KRef || c.Kind == api.KRef && c.Keep {
		return false
	}
	return mayBound(c) && mayBegin(c) && mayLie(c)
}

// mayBound tells whether a cell's bounds may be, and are those that its kind has.
func mayBound(c api.Cell) bool {
	isBound := c.Lo == 0 && c.Hi == 0
	if c.Sub {
		isBound = isInteger(c.Kind) && c.Lo <= c.Hi
	}
	var most span
	if c.Kind == api.KString {
		most.most = api.MaxText
	}
	return isBound && most.has(c.Max)
}

func isInteger(k api.Kind) bool { return k >= api.KSint && k <= api.KUlint }

// nowhere is the only reference that may be ahead of a run.
func nowhere() api.Value { return api.Value{Kind: api.KRef} }

// mayBegin tells whether a cell may begin with its value.
func mayBegin(c api.Cell) bool {
	if c.Kind == api.KRef {
		return c.Init == nowhere()
	}
	return value.Fits(api.Type{Kind: c.Kind, Sub: c.Sub, Lo: c.Lo, Hi: c.Hi, Max: c.Max}, c.Init) == api.FaultNone
}

// mayLie tells whether a cell may have its address, other cells aside.
func mayLie(c api.Cell) bool {
	if !(span{0, mostDir}).has(c.Dir) {
		return false
	}
	if c.Addr == "" {
		return c.Dir == 0
	}
	size, dir, is := lex.IsAddr(c.Addr)
	return is && dir == c.Dir && size == width(c.Kind) && !c.Sub
}

// width is how many bits of an address a kind takes; 0 of one that has none.
func width(k api.Kind) int {
	switch k {
	case api.KBool:
		return 1
	case api.KSint, api.KUsint, api.KByte:
		return 8
	case api.KInt, api.KUint, api.KWord:
		return 16
	case api.KDint, api.KUdint, api.KDword:
		return 32
	case api.KLint, api.KUlint, api.KLword:
		return 64
	}
	return 0
}
