package image

import "relay/api"

// frameFault is what is wrong with what stands around an image: how long it is, its first bytes, its check sum; and where.
func frameFault(b []byte) (int, api.Errno) {
	if len(b) > api.MaxImage {
		return 0, api.ErrLong
	}
	for at := range min(len(b), len(magic)) {
		if b[at] != magic[at] {
			return at, api.ErrMagic
		}
	}
	end := len(b) - sumSize
	if end < len(magic) {
		return len(b), api.ErrShort
	}
	if sumOf(b[:end]) != [sumSize]byte(b[end:]) {
		return end, api.ErrSum
	}
	return 0, api.OK
}

// reader reads an image's bytes, one thing behind the other. At the first fault it stops: whatever is read then is zero, and lists are empty.
type reader struct {
	bytes []byte
	at    int
	fault api.Fault
}

// read is the image of bytes that begin as one, up to the check sum; else the place of the fault.
func read(b []byte) (api.Image, int, api.Errno) {
	r := &reader{bytes: b, at: len(magic)}
	m := r.image()
	if r.at < len(b) {
		r.fail(r.at, api.ErrMore)
	}
	return m, r.fault.At, r.fault.Why
}

func (r *reader) failed() bool { return r.fault.Why != api.OK }

// fail notes a fault, unless there was one.
func (r *reader) fail(at int, why api.Errno) {
	if !r.failed() {
		r.fault = api.Fault{At: at, Why: why}
	}
}

// take is the next n bytes; none, if they are not all there. They are not the reader's own.
func (r *reader) take(n int) []byte {
	if n > len(r.bytes)-r.at {
		r.fail(len(r.bytes), api.ErrShort)
	}
	if r.failed() {
		return nil
	}
	r.at += n
	return r.bytes[r.at-n : r.at]
}

func (r *reader) raw() byte {
	l := r.take(1)
	if len(l) == 0 {
		return 0
	}
	return l[0]
}

// flag is a byte that must be 0 or 1.
func (r *reader) flag() bool {
	at := r.at
	b := r.raw()
	if b > 1 {
		r.fail(at, api.ErrCell)
	}
	return b == 1
}

func (r *reader) number() int {
	n := 0
	for i, b := range r.take(numberSize) {
		n |= int(b) << (8 * i)
	}
	return n
}

// count is how many bytes or things there are, each of which takes a byte at least.
func (r *reader) count() int {
	at := r.at
	n := r.number()
	switch {
	case n < 0:
		r.fail(at, api.ErrLong)
	case n > len(r.bytes)-r.at:
		r.fail(len(r.bytes), api.ErrShort)
	}
	return n
}

func (r *reader) text() string {
	n := r.count()
	return string(r.take(n))
}

func (r *reader) value() api.Value {
	return api.Value{Kind: api.Kind(r.raw()), Bits: uint64(r.number()), Text: r.text()}
}

// readList is things, as many as are told ahead of them. The list grows with what is there: what is told may be far more than that.
func readList[T any](r *reader, read func() T) []T {
	var l []T
	for range r.count() {
		if r.failed() {
			break
		}
		l = append(l, read())
	}
	return l
}

func (r *reader) image() api.Image {
	return api.Image{Name: r.text(), Cells: readList(r, r.cell), Codes: readList(r, r.code), Jobs: readList(r, r.job)}
}

func (r *reader) cell() api.Cell {
	return api.Cell{
		Kind: api.Kind(r.raw()), Sub: r.flag(), Lo: r.number(), Hi: r.number(), Max: r.number(),
		Init: r.value(), Keep: r.flag(), Dir: int(r.raw()), Addr: r.text(),
	}
}

func (r *reader) code() api.Flat {
	return api.Flat{
		Name: r.text(), What: r.number(), Cells: r.number(), Base: r.number(), Regs: r.number(), Slots: r.number(),
		Ops: readList(r, r.op), Loops: readList(r, r.loop),
	}
}

func (r *reader) op() api.Op {
	return api.Op{
		Code: r.number(), A: r.number(), B: r.number(), C: r.number(), D: r.number(), Lo: r.number(), Hi: r.number(),
		Value: r.value(),
	}
}

func (r *reader) loop() api.Loop {
	return api.Loop{Head: r.number(), End: r.number(), Times: r.number()}
}

func (r *reader) job() api.Job {
	return api.Job{
		Name: r.text(), Interval: r.number(), Single: r.number(), Priority: r.number(),
		Codes: readList(r, r.number), Bases: readList(r, r.number), Bound: r.number(),
	}
}
