package opt

import (
	"relay/api"
	"relay/value"
)

// fact is which IrConst gave a register last (nil: another instruction did), and in which stretch.
type fact struct {
	stretch int
	giver   *line
}

// known is the first rule: what is known is reckoned ahead.
func (w *work) known() bool {
	begins := w.beginnings()
	changed := false
	w.sweep(func(at int, l *line) bool {
		if begins[at] {
			w.stretch++
		}
		values := w.valuesOf(l)
		// Ahead of its change, which the lines behind it must not see.
		w.note(l)
		if len(values) == 0 {
			return false
		}
		o := settled(l.Op, values)
		if o == l.Op {
			return false
		}
		changed = true
		w.isLed = w.isLed || l.Code == api.IrUnless
		l.become(o)
		return o.Code == out
	})
	return changed
}

// out is the Code of what an instruction becomes that goes out.
const out = 0

// beginnings tells of each place whether a stretch begins there. (One more stands behind the last instruction.)
func (w *work) beginnings() []bool {
	begins := make([]bool, len(w.lines)+1)
	begins[0] = true
	for at, l := range w.lines {
		switch l.Code {
		case api.IrJump, api.IrUnless:
			begins[l.B] = true
			fallthrough
		case api.IrFault, api.IrReturn:
			begins[at+1] = true
		}
	}
	for _, l := range w.loops {
		begins[l.Head], begins[l.End] = true, true
	}
	return begins
}

// valuesOf is the values of the registers that a line reads; none, if one of them is not known, or it reads none.
func (w *work) valuesOf(l *line) []api.Value {
	for _, reg := range l.reads {
		if x := w.facts[reg]; x.stretch != w.stretch || x.giver == nil {
			return nil
		}
	}
	var values []api.Value
	for _, reg := range l.reads {
		values = append(values, w.facts[reg].giver.Value)
	}
	return values
}

// note notes what is known of the register that a line gives.
func (w *work) note(l *line) {
	if l.gives == none {
		return
	}
	x := fact{stretch: w.stretch}
	if l.Code == api.IrConst {
		x.giver = l
	}
	w.facts[l.gives] = x
}

// settled is what an instruction becomes, if the registers that it reads have such values.
func settled(o api.Op, values []api.Value) api.Op {
	v := values[0]
	switch o.Code {
	case api.IrCheck:
		if n, is := value.Number(v); is && isInteger(v.Kind) && n >= o.Lo && n <= o.Hi {
			return api.Op{Code: out}
		}
	case api.IrText:
		if v.Kind == api.KString && value.May(v) && len(v.Text) <= o.Hi {
			return api.Op{Code: out}
		}
	case api.IrUnless:
		switch v {
		case value.Bool(true):
			return api.Op{Code: out}
		case value.Bool(false):
			return api.Op{Code: api.IrJump, B: o.B}
		}
	case api.IrMove, api.IrDo, api.IrTurn, api.IrConv:
		if v, is := Fold(o, values); is {
			return api.Op{Code: api.IrConst, A: o.A, Value: v}
		}
	}
	return o
}

func isInteger(k api.Kind) bool { return k >= api.KSint && k <= api.KUlint }
