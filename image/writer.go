package image

import "relay/api"

// magic is the bytes with which every image begins.
const magic = "rly\x01"

// numberSize is how many bytes a number has.
const numberSize = 8

// writer writes an image's bytes, one thing behind the other.
type writer struct{ bytes []byte }

func (w *writer) raw(b byte) { w.bytes = append(w.bytes, b) }

func (w *writer) flag(is bool) {
	if is {
		w.raw(1)
	} else {
		w.raw(0)
	}
}

func (w *writer) number(n int) {
	for i := range numberSize {
		w.raw(byte(n >> (8 * i)))
	}
}

func (w *writer) numbers(l ...int) {
	for _, n := range l {
		w.number(n)
	}
}

func (w *writer) text(s string) {
	w.number(len(s))
	w.bytes = append(w.bytes, s...)
}

func (w *writer) value(v api.Value) {
	w.raw(byte(v.Kind))
	w.number(int(v.Bits))
	w.text(v.Text)
}

// writeList writes how many things there are, and each of them.
func writeList[T any](w *writer, l []T, write func(x T)) {
	w.number(len(l))
	for _, x := range l {
		write(x)
	}
}

func (w *writer) image(m api.Image) {
	w.bytes = append(w.bytes, magic...)
	w.text(m.Name)
	writeList(w, m.Cells, w.cell)
	writeList(w, m.Codes, w.code)
	writeList(w, m.Jobs, w.job)
}

func (w *writer) cell(c api.Cell) {
	w.raw(byte(c.Kind))
	w.flag(c.Sub)
	w.numbers(c.Lo, c.Hi, c.Max)
	w.value(c.Init)
	w.flag(c.Keep)
	w.raw(byte(c.Dir))
	w.text(c.Addr)
}

func (w *writer) code(f api.Flat) {
	w.text(f.Name)
	w.numbers(f.What, f.Cells, f.Base, f.Regs, f.Slots)
	writeList(w, f.Ops, w.op)
	writeList(w, f.Loops, w.loop)
}

func (w *writer) op(o api.Op) {
	w.numbers(o.Code, o.A, o.B, o.C, o.D, o.Lo, o.Hi)
	w.value(o.Value)
}

func (w *writer) loop(l api.Loop) { w.numbers(l.Head, l.End, l.Times) }

func (w *writer) job(j api.Job) {
	w.text(j.Name)
	w.numbers(j.Interval, j.Single, j.Priority)
	writeList(w, j.Codes, w.number)
	writeList(w, j.Bases, w.number)
	w.number(j.Bound)
}
