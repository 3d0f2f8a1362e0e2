package stdlib

import (
	"relay/api"
	"relay/value"
)

// What the functions take, and the kinds that they give for it.

func isInteger(k api.Kind) bool { return k >= api.KSint && k <= api.KUlint }
func isRow(k api.Kind) bool     { return k >= api.KByte && k <= api.KLword }

// sample is a value of a kind that no operation with a line for the kind has a fault of: 1, where there is one, as 0 divides nothing.
func sample(k api.Kind) api.Value {
	if v, fault := value.Int(k, 1); fault == api.FaultNone {
		return v
	}
	return value.Zero(k)
}

// reckoned: two kinds that layer 1 has a line for, or more of one kind that stays.
func reckoned(op int, kinds ...api.Kind) api.Kind {
	v, _ := value.Reckon(op, sample(kinds[0]), sample(kinds[1]))
	if len(kinds) > 2 && common(kinds...) != v.Kind {
		return api.KNone
	}
	return v.Kind
}

func turned(op int, kinds ...api.Kind) api.Kind {
	v, _ := value.Turn(op, sample(kinds[0]))
	return v.Kind
}

// alike: all of one kind, which they give.
func alike(_ int, kinds ...api.Kind) api.Kind { return common(kinds...) }

// common is the kind that all are of; KNone, if there is none.
func common(kinds ...api.Kind) api.Kind {
	for _, k := range kinds {
		if k != kinds[0] {
			return api.KNone
		}
	}
	// Kinds that are none of values have no value to begin at.
	return value.Zero(kinds[0]).Kind
}

func compared(_ int, kinds ...api.Kind) api.Kind {
	return given(api.KBool, common(kinds...) != api.KNone)
}

func sized(_ int, kinds ...api.Kind) api.Kind {
	k := kinds[0]
	return given(k, isInteger(k) || k == api.KLreal || k == api.KTime)
}

func chosenByTruth(_ int, kinds ...api.Kind) api.Kind {
	return given(common(kinds[1:]...), kinds[0] == api.KBool)
}

func chosenByNumber(_ int, kinds ...api.Kind) api.Kind {
	return given(common(kinds[1:]...), isInteger(kinds[0]))
}

func shifted(_ int, kinds ...api.Kind) api.Kind {
	return given(kinds[0], isRow(kinds[0]) && isInteger(kinds[1]))
}

// oneText and twoTexts: so many STRINGs, and integers behind them.
func oneText(gives int, kinds ...api.Kind) api.Kind {
	return given(api.Kind(gives), texts(kinds[:1]...) && integers(kinds[1:]...))
}

func twoTexts(gives int, kinds ...api.Kind) api.Kind {
	return given(api.Kind(gives), texts(kinds[:2]...) && integers(kinds[2:]...))
}

func allTexts(gives int, kinds ...api.Kind) api.Kind {
	return given(api.Kind(gives), texts(kinds...))
}

func cut(gives int, kinds ...api.Kind) api.Kind {
	return given(api.Kind(gives), kinds[0] == api.KLreal)
}

// converted: what values of a kind can't be converted to, none of them can, so one tells of all.
func converted(to int, kinds ...api.Kind) api.Kind {
	_, fault := value.Convert(api.Kind(to), sample(kinds[0]))
	return given(api.Kind(to), fault != api.FaultKind)
}

// given is a kind, if it is given at all.
func given(k api.Kind, is bool) api.Kind {
	if !is {
		return api.KNone
	}
	return k
}

func texts(kinds ...api.Kind) bool {
	for _, k := range kinds {
		if k != api.KString {
			return false
		}
	}
	return true
}

func integers(kinds ...api.Kind) bool {
	for _, k := range kinds {
		if !isInteger(k) {
			return false
		}
	}
	return true
}
