package image_test

import (
	"bytes"
	"encoding/binary"
	"encoding/hex"
	"math/rand"
	"slices"
	"strings"
	"testing"

	"relay/api"
	"relay/image"
)

// refuses tells whether bytes are refused at a place with an error, and nothing else is told.
func refuses(t *testing.T, what any, b []byte, at int, why api.Errno) {
	t.Helper()
	m, gotAt, got := image.Decode(b)
	if gotAt != at || got != why || !image.Same(m, api.Image{}) {
		t.Error(what, gotAt, got, "not", at, why)
	}
	if _, gotAt, got := modelDecode(b); gotAt != at || got != why {
		t.Error(what, "model", gotAt, got, "not", at, why)
	}
}

// The chapter's first two examples, and the check sum of known bytes.
func TestExamples(t *testing.T) {
	b := encoded(t, api.Image{Name: "M"})
	want := "726c7901" + "0100000000000000" + "4d" + strings.Repeat("0000000000000000", 3) + "d8164d83"
	if got := hex.EncodeToString(b); got != want || len(b) != 41 {
		t.Error(got)
	}
	if m := decoded(t, b); !image.Same(m, api.Image{Name: "M"}) {
		t.Error(m)
	}
	b[12] = 'N'
	refuses(t, "N", b, 37, api.ErrSum)
	refuses(t, "72 6c 7a", []byte{0x72, 0x6c, 0x7a}, 2, api.ErrMagic)
}

// An image's bytes, field by field.
func TestBytes(t *testing.T) {
	m := api.Image{
		Name:  "M",
		Cells: []api.Cell{{Kind: api.KInt, Sub: true, Lo: -2, Hi: 258, Init: whole(api.KInt, -1), Keep: true}, {Kind: api.KString, Max: 3, Init: text("ab")}, {Kind: api.KBool, Init: whole(api.KBool, 1), Dir: 2, Addr: "%QX1.2"}},
		Codes: []api.Flat{{
			Name: "P", What: 3, Cells: 1, Base: -1, Regs: 8, Slots: 1,
			Ops:   []api.Op{{Code: api.IrConst, A: 7, Value: text("z")}, {Code: api.IrLoadX, A: 1, B: 2, C: 3, D: 4, Lo: -5, Hi: 6}, {Code: api.IrReturn}},
			Loops: []api.Loop{{Head: 1, End: 2, Times: 300}},
		}},
		Jobs: []api.Job{{Name: "TA", Interval: 1000, Single: 2, Priority: 7, Codes: []int{0, 0}, Bases: []int{1, 2}, Bound: 9}},
	}
	const (
		n0, n1, n2, n3 = "0000000000000000", "0100000000000000", "0200000000000000", "0300000000000000"
		m1, m2, m5     = "ffffffffffffffff", "feffffffffffffff", "fbffffffffffffff"
	)
	n := func(low string) string { return low + strings.Repeat("0", 16-len(low)) }
	want := "726c7901" + n1 + "4d" +
		n3 +
		"03" + "01" + m2 + n("0201") + n0 + "03" + m1 + n0 + "01" + "00" + n0 +
		"13" + "00" + n0 + n0 + n3 + "13" + n0 + n2 + "6162" + "00" + "00" + n0 +
		"01" + "00" + n0 + n0 + n0 + "01" + n1 + n0 + "00" + "02" + n("06") + "255158312e32" +
		n1 +
		n1 + "50" + n3 + n1 + m1 + n("08") + n1 +
		n3 +
		n1 + n("07") + n0 + n0 + n0 + n0 + n0 + "13" + n0 + n1 + "7a" +
		n("05") + n1 + n2 + n3 + n("04") + m5 + n("06") + "00" + n0 + n0 +
		n("15") + n0 + n0 + n0 + n0 + n0 + n0 + "00" + n0 + n0 +
		n1 + n1 + n2 + n("2c01") +
		n1 +
		n2 + "5441" + n("e803") + n2 + n("07") + n2 + n0 + n0 + n2 + n1 + n2 + n("09")
	b := encoded(t, m)
	if got := hex.EncodeToString(b[:len(b)-4]); got != want {
		t.Errorf("\n got %s\nwant %s", got, want)
	}
	if !bytes.Equal(modelBody(m).bytes, b[:len(b)-4]) || !bytes.Equal(sealed(b[:len(b)-4]), b) {
		t.Error("the model's bytes are others")
	}
}

// The check sum, as the chapter reckons it: bit by bit.
func TestSum(t *testing.T) {
	slow := func(b []byte) uint32 {
		c := uint32(1<<32 - 1)
		for _, x := range b {
			c ^= uint32(x)
			for range 8 {
				was := c
				c /= 2
				if was%2 == 1 {
					c ^= 0xedb88320
				}
			}
		}
		return c ^ (1<<32 - 1)
	}
	if slow([]byte("123456789")) != 0xcbf43926 {
		t.Fatal(slow([]byte("123456789")))
	}
	r := rand.New(rand.NewSource(1))
	for range 300 {
		b := encoded(t, some(r))
		if end := len(b) - 4; binary.LittleEndian.Uint32(b[end:]) != slow(b[:end]) {
			t.Fatal(b)
		}
	}
}

// each hands on images that may be: a good one, an empty one, and many by chance.
func each(n int, to func(m api.Image)) {
	to(good())
	to(api.Image{Name: "M"})
	r := rand.New(rand.NewSource(3))
	for range n {
		to(some(r))
	}
}

// P20.2, P20.3, P20.5, P20.6: there and back, and the same bytes again.
func TestThereAndBack(t *testing.T) {
	each(5000, func(m api.Image) {
		b := encoded(t, m)
		if !bytes.Equal(b, sealed(modelBody(m).bytes)) {
			t.Fatal(m, b)
		}
		back := decoded(t, b)
		if !image.Same(back, m) || !modelSame(back, m) {
			t.Fatal(m, back)
		}
		if again := encoded(t, back); !bytes.Equal(again, b) {
			t.Fatal(m)
		}
	})
}

// P20.3, P20.8: each beginning of an image's bytes, also with a check sum of its own; and more behind.
func TestBeginnings(t *testing.T) {
	each(30, func(m api.Image) {
		b := encoded(t, m)
		for n := range b {
			switch {
			case n < 8:
				refuses(t, n, b[:n], n, api.ErrShort)
			default:
				refuses(t, n, b[:n], n-4, api.ErrSum)
			}
		}
		whole := b[:len(b)-4]
		for n := 4; n < len(whole); n++ {
			refuses(t, n, sealed(whole[:n]), n, api.ErrShort)
		}
		for _, more := range [][]byte{{0}, {1}, {255}, b[len(b)-4:], make([]byte, 8), make([]byte, 100)} {
			refuses(t, more, append(slices.Clone(b), more...), len(b)+len(more)-4, api.ErrSum)
			refuses(t, more, sealed(append(slices.Clone(whole), more...)), len(whole), api.ErrMore)
		}
	})
	refuses(t, "nil", nil, 0, api.ErrShort)
	refuses(t, "empty", []byte{}, 0, api.ErrShort)
}

// P20.7: each byte turned, to each other one.
func TestEachByte(t *testing.T) {
	look := func(m api.Image, turns []byte) {
		b := encoded(t, m)
		for i := range b {
			for _, by := range turns {
				b[i] ^= by
				if i < 4 {
					refuses(t, i, b, i, api.ErrMagic)
				} else {
					refuses(t, i, b, len(b)-4, api.ErrSum)
				}
				b[i] ^= by
			}
		}
	}
	all := make([]byte, 255)
	for i := range all {
		all[i] = byte(i + 1)
	}
	look(api.Image{Name: "M"}, all)
	look(good(), []byte{1, 2, 128, 255})
}

// P20.3: which of the first faults is told.
func TestFrame(t *testing.T) {
	// Of bytes that begin wrong the first wrong one, however short they are
	for at := range 4 {
		for n := at + 1; n < 12; n++ {
			b := append([]byte("rly\x01"), make([]byte, 8)...)[:n]
			for i := at; i < min(n, 4); i++ {
				b[i] ^= 0x20
			}
			refuses(t, n, b, at, api.ErrMagic)
		}
	}
	for n := range 8 {
		refuses(t, n, []byte("rly\x01\x00\x00\x00\x00")[:n], n, api.ErrShort)
	}
	refuses(t, "no sum", []byte("rly\x01\x00\x00\x00\x00"), 4, api.ErrSum)
	refuses(t, "nothing but a sum", sealed([]byte("rly\x01")), 4, api.ErrShort)
	// The sum is asked ahead of what stands there; the length ahead of all
	refuses(t, "a wrong sum", append([]byte("rly\x01"), bytes.Repeat([]byte{0xff}, 30)...), 30, api.ErrSum)
	refuses(t, "too long", make([]byte, api.MaxImage+1), 0, api.ErrLong)
	refuses(t, "too long", sealed(append([]byte("rly\x01"), make([]byte, api.MaxImage-7)...)), 0, api.ErrLong)
	// As long as may be: the name is no name, and much is left.
	refuses(t, "long", sealed(append([]byte("rly\x01"), make([]byte, api.MaxImage-8)...)), 36, api.ErrMore)
	refuses(t, "long", make([]byte, api.MaxImage), 0, api.ErrMagic)
}

// with is bytes with a number at a place, and their check sum.
func with(b []byte, at, n int) []byte {
	b = slices.Clone(b)
	binary.LittleEndian.PutUint64(b[at:], uint64(n))
	return sealed(b)
}

// P20.3: numbers of lists and texts that are below 0, or too great for what is left; bytes Sub and Keep.
func TestCounts(t *testing.T) {
	each(20, func(m api.Image) {
		b := modelBody(m)
		end := len(b.bytes)
		for _, at := range b.counts {
			for _, n := range []int{-1, -2, -1 << 32, least} {
				refuses(t, at, with(b.bytes, at, n), at, api.ErrLong)
			}
			left := end - at - 8
			for _, n := range []int{left + 1, left + 2, 1 << 31, 1 << 40, most - 7, most} {
				refuses(t, at, with(b.bytes, at, n), end, api.ErrShort)
			}
		}
		for _, at := range b.flags {
			for _, x := range []byte{2, 3, 128, 255} {
				c := slices.Clone(b.bytes)
				c[at] = x
				refuses(t, at, sealed(c), at, api.ErrCell)
			}
		}
	})
	// So many bytes are there as a list says to have things, but not as many as these take.
	refuses(t, "cells", sealed(append([]byte("rly\x01\x01\x00\x00\x00\x00\x00\x00\x00M\x14\x00\x00\x00\x00\x00\x00\x00"), make([]byte, 20)...)), 41, api.ErrShort)
	refuses(t, "cells", sealed(append([]byte("rly\x01\x01\x00\x00\x00\x00\x00\x00\x00M\x14\x00\x00\x00\x00\x00\x00\x00"), bytes.Repeat([]byte{9}, 20)...)), 22, api.ErrCell)
	refuses(t, "cells", sealed(append([]byte("rly\x01\x01\x00\x00\x00\x00\x00\x00\x00M\x15\x00\x00\x00\x00\x00\x00\x00"), bytes.Repeat([]byte{9}, 20)...)), 41, api.ErrShort)
}

// P20.3: the fault that stands first from the front on is told.
func TestFromTheFront(t *testing.T) {
	m := good()
	b := modelBody(m)
	keep := b.flags[1]
	for _, at := range b.counts {
		c := slices.Clone(b.bytes)
		c[keep] = 7
		binary.LittleEndian.PutUint64(c[at:], 1<<63)
		if at < keep {
			refuses(t, at, sealed(c), at, api.ErrLong)
		} else {
			refuses(t, at, sealed(c), keep, api.ErrCell)
		}
		binary.LittleEndian.PutUint64(c[at:], 1<<50)
		if at < keep {
			refuses(t, at, sealed(c), len(c), api.ErrShort)
		} else {
			refuses(t, at, sealed(c), keep, api.ErrCell)
		}
	}
	// A fault of the bytes comes ahead of one of the image.
	m.Name = ""
	refuses(t, "no name", sealed(modelBody(m).bytes), 0, api.ErrName)
	refuses(t, "no name, and more", sealed(append(modelBody(m).bytes, 0)), len(modelBody(m).bytes), api.ErrMore)
}

// P20.3: Check's error, at the place 0.
func TestChecked(t *testing.T) {
	for _, x := range wrongs() {
		m := good()
		x.change(&m)
		if len(modelBody(m).bytes) > api.MaxImage-4 || slices.ContainsFunc(m.Cells, func(c api.Cell) bool { return c.Dir < 0 || c.Dir > 255 }) {
			continue
		}
		refuses(t, x.name, sealed(modelBody(m).bytes), 0, x.want.why)
	}
	// Numbers that bytes can't tell apart from others: Dir 257 is not 1.
	m := good()
	m.Cells[cellBool].Dir = 257
	if _, why := image.Encode(m); why != api.ErrCell {
		t.Error(why)
	}
}

// Bytes by chance, and images' bytes with some changed, under a check sum that is right, are taken and refused as the sentences say; what is taken is one form.
func TestModelDecode(t *testing.T) {
	r := rand.New(rand.NewSource(4))
	counts := map[api.Errno]int{}
	for range 60000 {
		m := some(r)
		if r.Intn(4) == 0 {
			spoil(r, &m)
		}
		b := modelBody(m).bytes
		for range r.Intn(3) {
			switch at := 4 + r.Intn(len(b)-4); r.Intn(4) {
			case 0:
				b[at] = byte(r.Intn(256))
			case 1:
				b[at] = byte(r.Intn(3))
			case 2:
				b = b[:at]
			default:
				b = slices.Insert(b, at, make([]byte, 1+r.Intn(9))...)
			}
			if len(b) == 4 {
				break
			}
		}
		b = sealed(b)
		got, at, why := image.Decode(b)
		want, wantAt, wantWhy := modelDecode(b)
		if at != wantAt || why != wantWhy || !modelSame(got, want) {
			t.Fatal(b, at, why, wantAt, wantWhy)
		}
		if why == api.OK && !bytes.Equal(encoded(t, got), b) {
			t.Fatal(b)
		}
		counts[why]++
	}
	for _, why := range []api.Errno{api.OK, api.ErrShort, api.ErrLong, api.ErrMore, api.ErrName, api.ErrCell, api.ErrCode, api.ErrJob} {
		if counts[why] < 300 {
			t.Error(why, counts)
		}
	}
}

// sized is an image of just so many bytes, which must be many.
func sized(t *testing.T, n int) api.Image {
	t.Helper()
	m := api.Image{Name: "M", Cells: slices.Repeat([]api.Cell{{Kind: api.KString, Init: text("")}}, 20)}
	size := func() int { return len(modelBody(m).bytes) + 4 }
	for n-size() > api.MaxCode*24+1000 {
		m.Codes = append(m.Codes, api.Flat{Name: "P", What: 3, Base: -1, Ops: []api.Op{{Code: api.IrReturn}}, Loops: make([]api.Loop, api.MaxCode)})
	}
	m.Codes = append(m.Codes, api.Flat{Name: "P", What: 3, Base: -1, Ops: []api.Op{{Code: api.IrReturn}}})
	for i := range m.Cells {
		m.Cells[i].Init.Text = strings.Repeat("x", min(100, n-size()))
	}
	last := &m.Codes[len(m.Codes)-1]
	last.Loops = make([]api.Loop, (n-size())/24)
	m.Cells[0].Init.Text += strings.Repeat("y", n-size())
	if size() != n || check(m) != (refusal{}) {
		t.Fatal(size(), n, check(m))
	}
	return m
}

// P20.2, P20.3: MaxImage bytes, and beyond.
func TestLongest(t *testing.T) {
	for _, n := range []int{api.MaxImage - 1, api.MaxImage} {
		m := sized(t, n)
		b := encoded(t, m)
		if len(b) != n || !image.Same(decoded(t, b), m) {
			t.Error(n, len(b))
		}
	}
	for _, n := range []int{api.MaxImage + 1, api.MaxImage + 2, api.MaxImage + 4, api.MaxImage + 5, 3 * api.MaxImage} {
		m := sized(t, n)
		if b, why := image.Encode(m); why != api.ErrLong || len(b) != 0 {
			t.Error(n, len(b), why)
		}
		refuses(t, n, sealed(modelBody(m).bytes), 0, api.ErrLong)
		// Check's error comes first.
		m.Jobs = []api.Job{{Name: "T", Single: -2}}
		if _, why := image.Encode(m); why != api.ErrJob {
			t.Error(why)
		}
	}
}
