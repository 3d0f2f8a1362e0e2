package image_test

import (
	"encoding/binary"
	"hash/crc32"
	"math/big"
	"strconv"
	"strings"

	"relay/api"
	"relay/lex"
	"relay/value"
)

// fieldIs is what a field of an instruction may be: a word of the chapter's table, or the least and the greatest number.
type fieldIs string

// bounds is the least and the greatest number, in a code of n instructions beside so many codes.
func (s fieldIs) bounds(f api.Flat, n, codes int) (int, int) {
	switch s {
	case "-":
		return 0, 0
	case "register":
		return 0, f.Regs - 1
	case "slot":
		return 0, f.Slots - 1
	case "place":
		return 0, n - 1
	case "code":
		return 0, codes - 1
	}
	from, to, _ := strings.Cut(string(s), "..")
	least, _ := strconv.Atoi(from)
	most, err := strconv.Atoi(to)
	if err != nil {
		panic(s)
	}
	return least, most
}

type opRow struct {
	fields [4]fieldIs
	reach  string
}

// opRows is the table of 20.2, by Codes.
var opRows = readRows()

func readRows() map[int]opRow {
	const table = `
1 register - - - -
2 register register - - -
3 register 1..3 0..4096 - -
4 register 1..3 0..4096 - -
7 register 1..3 0..4096 - -
5 register 1..3 0..4096 register array
6 register 1..3 0..4096 register array
8 register 1..3 0..4096 register array
9 register register register 1..14 -
10 register register - 15..16 -
11 register register - 1..19 -
12 register - - - -
13 register - 0..16 0..255 -
14 register - - - rising
15 register - - - text
16 - place - - -
17 register place - - -
18 - code 1..3 0..4096 -
19 - 1..10 1..3 0..4096 -
20 1..10 - - - -
21 - - - - -
22 register slot - - -
23 register slot - - -`
	l := map[int]opRow{}
	for _, line := range strings.Split(strings.TrimSpace(table), "\n") {
		w := strings.Fields(line)
		code, _ := strconv.Atoi(w[0])
		l[code] = opRow{[4]fieldIs{fieldIs(w[1]), fieldIs(w[2]), fieldIs(w[3]), fieldIs(w[4])}, w[5]}
	}
	return l
}

// modelDoes tells whether 20.2 holds of an instruction.
func modelDoes(o api.Op, f api.Flat, codes int) bool {
	row, is := opRows[o.Code]
	if !is {
		return false
	}
	for i, n := range []int{o.A, o.B, o.C, o.D} {
		if least, most := row.fields[i].bounds(f, len(f.Ops), codes); n < least || n > most {
			return false
		}
	}
	switch row.reach {
	case "-":
		is = o.Lo == 0 && o.Hi == 0
	case "array":
		apart := new(big.Int).Sub(big.NewInt(int64(o.Hi)), big.NewInt(int64(o.Lo)))
		is = apart.Sign() >= 0 && apart.Cmp(big.NewInt(256)) < 0
	case "rising":
		is = o.Lo <= o.Hi
	case "text":
		is = o.Lo == 0 && o.Hi >= 0 && o.Hi <= api.MaxText
	}
	v := o.Value
	if o.Code == api.IrConst {
		return is && (value.May(v) || v.Kind == api.KRef && v.Bits == 0 && v.Text == "")
	}
	return is && v.Kind == 0 && v.Bits == 0 && v.Text == ""
}

// faults is what is wrong with an image, in the chapter's order.
type faults []refusal

func (l *faults) unless(is bool, number, place int, why api.Errno) {
	if !is {
		*l = append(*l, refusal{number, place, why})
	}
}

// modelCheck is what Check must answer: each sentence by itself, and the first one that does not hold.
func modelCheck(m api.Image) refusal {
	var l faults
	l.unless(lex.IsName(m.Name), 0, 0, api.ErrName)
	l.unless(len(m.Cells) <= 4096, 4096, 0, api.ErrLong)
	l.unless(len(m.Codes) <= 64, 64, 0, api.ErrLong)
	l.unless(len(m.Jobs) <= 16, 16, 0, api.ErrLong)
	for i := range m.Cells {
		l.cell(m, i)
	}
	ops := 0
	for i := range m.Codes {
		ops += len(m.Codes[i].Ops)
		l.code(m, i, ops)
	}
	for i := range m.Jobs {
		l.job(m, i)
	}
	if len(l) == 0 {
		return refusal{}
	}
	return l[0]
}

var bits = map[api.Kind]int{
	api.KBool: 1, api.KSint: 8, api.KUsint: 8, api.KByte: 8, api.KInt: 16, api.KUint: 16, api.KWord: 16,
	api.KDint: 32, api.KUdint: 32, api.KDword: 32, api.KLint: 64, api.KUlint: 64, api.KLword: 64,
}

func (l *faults) cell(m api.Image, i int) {
	c := m.Cells[i]
	cell := func(is bool) { l.unless(is, i, 0, api.ErrCell) }
	isInteger := c.Kind >= 2 && c.Kind <= 9
	cell(c.Kind >= 1 && c.Kind <= 20)
	cell(!c.Sub || isInteger)
	cell(c.Sub || c.Lo == 0 && c.Hi == 0)
	cell(!c.Sub || c.Lo <= c.Hi)
	cell(c.Max >= 0 && c.Max <= 254)
	cell(c.Kind == api.KString || c.Max == 0)
	cell(c.Init.Kind == c.Kind)
	if c.Kind == api.KRef {
		cell(c.Init.Bits == 0 && c.Init.Text == "")
		cell(!c.Keep)
	} else {
		cell(value.May(c.Init))
		cell(value.Fits(api.Type{Kind: c.Kind, Sub: c.Sub, Lo: c.Lo, Hi: c.Hi, Max: c.Max}, c.Init) == 0)
	}
	cell(c.Dir >= 0 && c.Dir <= 2)
	if c.Addr == "" {
		cell(c.Dir == 0)
		return
	}
	n, dir, is := lex.IsAddr(c.Addr)
	cell(is && dir == c.Dir && n == bits[c.Kind] && !c.Sub)
	for _, ahead := range m.Cells[:i] {
		cell(ahead.Addr != c.Addr)
	}
}

func (l *faults) code(m api.Image, i, ops int) {
	f, n := m.Codes[i], len(m.Codes[i].Ops)
	code := func(is bool) { l.unless(is, i, 0, api.ErrCode) }
	l.unless(lex.IsName(f.Name), i, 0, api.ErrName)
	code(f.What >= 1 && f.What <= 3)
	code(f.Cells >= 0 && f.Cells <= 4096)
	code(f.Base >= -1)
	code(f.Base <= -1 || f.What == 1)
	code(f.Base <= -1 || f.Base <= 4096 && f.Base+f.Cells <= len(m.Cells))
	code(f.Regs >= 0 && f.Regs <= 8)
	code(f.Slots >= 0 && f.Slots <= 1024)
	code(n > 0)
	if n > 0 {
		last := f.Ops[n-1].Code
		code(last == 16 || last == 20 || last == 21)
	}
	for _, x := range f.Loops {
		code(x.Head >= 0 && x.Head <= x.End && x.End <= n && x.Times >= 0 && x.Times <= 65536)
	}
	l.unless(ops <= 16384, i, 0, api.ErrLong)
	l.unless(len(f.Loops) <= 16384, i, 0, api.ErrLong)
	for at, o := range f.Ops {
		l.unless(modelDoes(o, f, len(m.Codes)), i, at, api.ErrCode)
	}
}

func (l *faults) job(m api.Image, i int) {
	j := m.Jobs[i]
	job := func(is bool) { l.unless(is, i, 0, api.ErrJob) }
	l.unless(lex.IsName(j.Name), i, 0, api.ErrName)
	for _, ahead := range m.Jobs[:i] {
		l.unless(ahead.Name != j.Name, i, 0, api.ErrName)
	}
	job(j.Interval >= 0)
	job(j.Single == -1 || j.Single >= 0 && j.Single < len(m.Cells) && m.Cells[j.Single].Kind == api.KBool)
	job(j.Priority >= 0 && j.Priority <= 65535)
	job(j.Bound >= 0 && j.Bound <= 1048576)
	job(len(j.Codes) == len(j.Bases))
	job(len(j.Codes) <= 32)
	for k, n := range j.Codes {
		is := n >= 0 && n < len(m.Codes) && m.Codes[n].What == 3
		job(is)
		if is && k < len(j.Bases) {
			base := j.Bases[k]
			job(base >= 0 && base <= 4096 && base+m.Codes[n].Cells <= len(m.Cells))
		}
	}
}

// sealed is bytes with their check sum behind them.
func sealed(b []byte) []byte {
	return binary.LittleEndian.AppendUint32(append([]byte{}, b...), crc32.ChecksumIEEE(b))
}

// body is an image's bytes up to the check sum, whether it may be or not, and where in them stand numbers of lists and texts, and the bytes Sub and Keep.
type body struct {
	bytes         []byte
	counts, flags []int
}

func modelBody(m api.Image) *body {
	b := &body{bytes: []byte{0x72, 0x6c, 0x79, 0x01}}
	b.text(m.Name)
	b.count(len(m.Cells))
	for _, c := range m.Cells {
		b.bytes = append(b.bytes, byte(c.Kind))
		b.flag(c.Sub)
		b.numbers(c.Lo, c.Hi, c.Max)
		b.value(c.Init)
		b.flag(c.Keep)
		b.bytes = append(b.bytes, byte(c.Dir))
		b.text(c.Addr)
	}
	b.count(len(m.Codes))
	for _, f := range m.Codes {
		b.text(f.Name)
		b.numbers(f.What, f.Cells, f.Base, f.Regs, f.Slots)
		b.count(len(f.Ops))
		for _, o := range f.Ops {
			b.numbers(o.Code, o.A, o.B, o.C, o.D, o.Lo, o.Hi)
			b.value(o.Value)
		}
		b.count(len(f.Loops))
		for _, l := range f.Loops {
			b.numbers(l.Head, l.End, l.Times)
		}
	}
	b.count(len(m.Jobs))
	for _, j := range m.Jobs {
		b.text(j.Name)
		b.numbers(j.Interval, j.Single, j.Priority)
		b.count(len(j.Codes))
		b.numbers(j.Codes...)
		b.count(len(j.Bases))
		b.numbers(j.Bases...)
		b.numbers(j.Bound)
	}
	return b
}

func (b *body) numbers(l ...int) {
	for _, n := range l {
		b.bytes = binary.LittleEndian.AppendUint64(b.bytes, uint64(n))
	}
}

func (b *body) count(n int) {
	b.counts = append(b.counts, len(b.bytes))
	b.numbers(n)
}

func (b *body) flag(is bool) {
	b.flags = append(b.flags, len(b.bytes))
	b.bytes = append(b.bytes, map[bool]byte{true: 1}[is])
}

func (b *body) text(s string) {
	b.count(len(s))
	b.bytes = append(b.bytes, s...)
}

func (b *body) value(v api.Value) {
	b.bytes = append(b.bytes, byte(v.Kind))
	b.numbers(int(v.Bits))
	b.text(v.Text)
}

// modelDecode is what Decode must answer: read step by step, given up by a panic.
func modelDecode(b []byte) (m api.Image, at int, why api.Errno) {
	defer func() {
		if f, is := recover().(api.Fault); is {
			m, at, why = api.Image{}, f.At, f.Why
		}
	}()
	fail := func(at int, why api.Errno) { panic(api.Fault{At: at, Why: why}) }
	if len(b) > 1<<22 {
		fail(0, api.ErrLong)
	}
	for i, want := range []byte{0x72, 0x6c, 0x79, 1} {
		if i == len(b) {
			fail(len(b), api.ErrShort)
		}
		if b[i] != want {
			fail(i, api.ErrMagic)
		}
	}
	if len(b) < 8 {
		fail(len(b), api.ErrShort)
	}
	end := len(b) - 4
	if binary.LittleEndian.Uint32(b[end:]) != crc32.ChecksumIEEE(b[:end]) {
		fail(end, api.ErrSum)
	}
	at = 4
	take := func(n int) []byte {
		if end-at < n {
			fail(end, api.ErrShort)
		}
		at += n
		return b[at-n : at]
	}
	number := func() int { return int(binary.LittleEndian.Uint64(take(8))) }
	numbers := func(l ...*int) {
		for _, p := range l {
			*p = number()
		}
	}
	count := func() int {
		from := at
		n := number()
		if n < 0 {
			fail(from, api.ErrLong)
		}
		take(n)
		at -= n
		return n
	}
	text := func() string { return string(take(count())) }
	flag := func() bool {
		if x := take(1)[0]; x > 1 {
			fail(at-1, api.ErrCell)
		} else {
			return x == 1
		}
		return false
	}
	val := func(v *api.Value) {
		v.Kind = api.Kind(take(1)[0])
		v.Bits = uint64(number())
		v.Text = text()
	}
	m.Name = text()
	for range count() {
		var c api.Cell
		c.Kind = api.Kind(take(1)[0])
		c.Sub = flag()
		numbers(&c.Lo, &c.Hi, &c.Max)
		val(&c.Init)
		c.Keep = flag()
		c.Dir = int(take(1)[0])
		c.Addr = text()
		m.Cells = append(m.Cells, c)
	}
	for range count() {
		var f api.Flat
		f.Name = text()
		numbers(&f.What, &f.Cells, &f.Base, &f.Regs, &f.Slots)
		for range count() {
			var o api.Op
			numbers(&o.Code, &o.A, &o.B, &o.C, &o.D, &o.Lo, &o.Hi)
			val(&o.Value)
			f.Ops = append(f.Ops, o)
		}
		for range count() {
			var l api.Loop
			numbers(&l.Head, &l.End, &l.Times)
			f.Loops = append(f.Loops, l)
		}
		m.Codes = append(m.Codes, f)
	}
	for range count() {
		var j api.Job
		j.Name = text()
		numbers(&j.Interval, &j.Single, &j.Priority)
		for range count() {
			j.Codes = append(j.Codes, number())
		}
		for range count() {
			j.Bases = append(j.Bases, number())
		}
		j.Bound = number()
		m.Jobs = append(m.Jobs, j)
	}
	if at < end {
		fail(at, api.ErrMore)
	}
	if x := modelCheck(m); x.why != api.OK {
		fail(0, x.why)
	}
	return m, 0, api.OK
}
