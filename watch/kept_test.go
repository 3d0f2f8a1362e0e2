package watch_test

import (
	"bytes"
	"slices"
	"strings"
	"testing"

	"relay/api"
	"relay/value"
)

// The chapter's second example, and P26.5: what is kept, byte by byte.
func TestSave(t *testing.T) {
	p := panelOf(t, api.Image{Name: "M", Cells: []api.Cell{{Kind: api.KInt, Init: number(5), Keep: true}}})
	b := p.Save()
	if !bytes.Equal(b, []byte{0x72, 0x6b, 0, 1, 3, 0, 0, 0, 0, 0, 0, 0, 5, 0}) {
		t.Error(b)
	}
	must(t, p.Load(b))
	refuses(t, p.Load(append(b, 0)), api.ErrKept)

	p = panelOf(t, usual(t))
	must(t, p.Force(cellKept, number(-2)))
	must(t, p.Force(cellText, text("hé\x00\xff")))
	want := []byte{
		0x72, 0x6b, 0, 4,
		3, 255, 255, 255, 255, 255, 255, 255, 254, 0,
		19, 0, 0, 0, 0, 0, 0, 0, 0, 5, 'h', 0xc3, 0xa9, 0, 255,
		3, 0, 0, 0, 0, 0, 0, 0, 50, 0,
		18, 0x3f, 0xe0, 0, 0, 0, 0, 0, 0, 0,
	}
	if b := p.Save(); !bytes.Equal(b, want) {
		t.Errorf("% x", b)
	}
	if b := panelOf(t, numbered(3, 0)).Save(); !bytes.Equal(b, []byte{0x72, 0x6b, 0, 0}) {
		t.Error(b)
	}
	if b := panelOf(t, api.Image{Name: "M"}).Save(); !bytes.Equal(b, []byte{0x72, 0x6b, 0, 0}) {
		t.Error(b)
	}
	if b := panelOf(t, numbered(api.MaxCells, api.MaxCells)).Save(); !bytes.HasPrefix(b, []byte{0x72, 0x6b, 0x10, 0, 3}) || len(b) != 4+10*api.MaxCells || b[len(b)-2] != 0xff || b[len(b)-3] != 0x0f {
		t.Error(len(b))
	}
	p = panelOf(t, ofEachKind())
	must(t, p.Force(int(api.KString-api.KBool), long(api.MaxText)))
	if b := p.Save(); b[len(b)-api.MaxText-1] != api.MaxText || !bytes.HasSuffix(b, []byte(strings.Repeat("x", api.MaxText))) {
		t.Error(b)
	}
}

// P26.5: bits are the highest first.
func TestBitsSaved(t *testing.T) {
	p := panelOf(t, api.Image{Name: "M", Cells: []api.Cell{{Kind: api.KUlint, Init: whole(api.KUlint, 0x0102030405060708), Keep: true}}})
	b := p.Save()
	if !bytes.Equal(b[5:13], []byte{1, 2, 3, 4, 5, 6, 7, 8}) {
		t.Error(b)
	}
	must(t, p.Force(0, whole(api.KUlint, 0)))
	must(t, p.Free(0))
	must(t, p.Load(b))
	has(t, p, 0, whole(api.KUlint, 0x0102030405060708))
}

// P26.11: what is kept is put back into a panel over the same image; others stay.
func TestLoad(t *testing.T) {
	from := inMode(t, api.ModeRun)
	must(t, from.Force(cellReal, value.Lreal(-3)))
	b, all := from.Save(), cellsOf(t, from)
	for _, mode := range []int{api.ModeStop, api.ModeFault} {
		p := inMode(t, mode)
		entry(t, p, 30, at("%IW1", number(12)))
		want := cellsOf(t, p)
		for i, c := range someCells() {
			if c.Keep {
				want[i] = all[i]
			}
		}
		must(t, p.Load(b))
		if got := cellsOf(t, p); !slices.Equal(got, want) || !bytes.Equal(p.Save(), b) {
			t.Error(mode, got, want)
		}
		if report := entry(t, p, 0); report.Mode != mode {
			t.Error(report)
		}
	}
}

// P26.5: nothing is put back into what runs, whatever it is.
func TestLoadWhileRunning(t *testing.T) {
	p := inMode(t, api.ModeRun)
	b, ahead := p.Save(), cellsOf(t, p)
	b[12]++
	for _, b := range [][]byte{b, nil, {1}} {
		refuses(t, p.Load(b), api.ErrState)
	}
	if got := cellsOf(t, p); !slices.Equal(got, ahead) {
		t.Error(got)
	}
	must(t, p.Stop())
	must(t, p.Load(b))
	refuses(t, p.Load(nil), api.ErrKept)
}

// P26.5: over forced cells the others are put back; forced ones have their own values, in Save too.
func TestLoadOverForces(t *testing.T) {
	p := panelOf(t, usual(t))
	must(t, p.Force(cellKept, number(1)))
	must(t, p.Force(cellLevel, number(2)))
	b := p.Save()
	must(t, p.Free(cellKept))
	must(t, p.Force(cellLevel, number(3)))
	must(t, p.Reset(false))
	must(t, p.Load(b))
	has(t, p, cellKept, number(1))
	has(t, p, cellLevel, number(3))
	must(t, p.Free(cellLevel))
	must(t, p.Load(b))
	has(t, p, cellLevel, number(2))
}

// P26.5: what is not such bytes to the last one is refused, and nothing is put back.
func TestLoadOfOthers(t *testing.T) {
	p := panelOf(t, usual(t))
	must(t, p.Force(cellKept, number(-2)))
	must(t, p.Force(cellText, text("hello")))
	b := p.Save()
	must(t, p.Free(cellKept))
	must(t, p.Free(cellText))
	must(t, p.Reset(false))
	ahead := cellsOf(t, p)
	check := func(b []byte) {
		t.Helper()
		refuses(t, p.Load(b), api.ErrKept)
		if got := cellsOf(t, p); !slices.Equal(got, ahead) {
			t.Error(got)
		}
	}
	for n := range len(b) {
		check(b[:n])
	}
	check(append(slices.Clone(b), 0))
	check(append(slices.Clone(b), b...))
	check(append([]byte{0}, b...))
	check(append(slices.Clone(b), b[len(b)-10:]...))
	with := func(at int, x byte) []byte {
		l := slices.Clone(b)
		l[at] = x
		return l
	}
	const kept, words, level, real = 4, 14, 29, 39
	for at, x := range map[int]byte{0: 0x6b, 1: 0x72, 2: 1, 3: 3} {
		check(with(at, x))
	}
	check(with(3, 5))
	check(append(with(3, 5), b[len(b)-10:]...))
	check(with(3, 3)[:real])
	// Another kind, be the number for it or not
	for _, kind := range []byte{0, 1, 2, 4, 5, 7, 14, 18, 19, 20, 21, 255} {
		check(with(kept, kind))
		check(with(level, kind))
	}
	// Values that are for no INT, not for that level, no text, not as long
	check(with(kept+1, 0))
	check(with(kept+9, 1))
	check(with(level+8, 101))
	check(with(level+7, 1))
	check(with(level+1, 0x80))
	check(with(words+8, 1))
	check(with(words+9, 6))
	check(with(words+9, 4))
	check(slices.Insert(with(words+9, 6), level, 'x'))
	// No number that is none but the NaN
	check(slices.Replace(slices.Clone(b), real+1, real+9, 0x7f, 0xf8, 0, 0, 0, 0, 0, 2))
	must(t, p.Load(b))
	has(t, p, cellKept, number(-2))
	has(t, p, cellText, text("hello"))
	must(t, p.Load(slices.Replace(slices.Clone(b), real+1, real+9, 0x7f, 0xf8, 0, 0, 0, 0, 0, 1)))
	has(t, p, cellReal, whole(api.KLreal, 0x7ff8000000000001))
	must(t, p.Load(with(level+8, 100)))
	must(t, p.Load(slices.Delete(with(words+9, 0), words+10, level)))
	has(t, p, cellText, text(""))
	has(t, p, cellLevel, number(50))
}

// P26.5: the last value is refused as the first one is, and none of those ahead of it is put back.
func TestLoadAllOrNothing(t *testing.T) {
	p := panelOf(t, numbered(50, 50))
	b := p.Save()
	for i := range 50 {
		b[4+10*i+8] = 99
	}
	bad := slices.Clone(b)
	bad[len(bad)-9] = 1
	refuses(t, p.Load(bad), api.ErrKept)
	has(t, p, 0, number(0))
	has(t, p, 49, number(49))
	must(t, p.Load(b))
	has(t, p, 0, number(99))
	has(t, p, 49, number(99))
}

// P26.5: without cells that are kept there is one such text.
func TestLoadOfNothing(t *testing.T) {
	p := panelOf(t, numbered(2, 0))
	must(t, p.Load([]byte{0x72, 0x6b, 0, 0}))
	for _, b := range [][]byte{nil, {}, {0x72}, {0x72, 0x6b}, {0x72, 0x6b, 0}, {0x72, 0x6b, 0, 1}, {0x72, 0x6b, 1, 0}, {0x72, 0x6b, 0, 0, 0}, {0x72, 0x6b, 0, 1, 3, 0, 0, 0, 0, 0, 0, 0, 5, 0}} {
		refuses(t, p.Load(b), api.ErrKept)
	}
}

// P26.11: what a code has stored beyond its cell's bounds can't be put back.
func TestLoadOfWhatStrayed(t *testing.T) {
	p := started(t, task("A", 10, 1, strays))
	entry(t, p, 0)
	has(t, p, cellLevel, number(101))
	b := p.Save()
	must(t, p.Stop())
	refuses(t, p.Load(b), api.ErrKept)
	// Unless it is forced ahead of it
	must(t, p.Force(cellLevel, number(100)))
	must(t, p.Load(p.Save()))
	refuses(t, p.Load(b), api.ErrKept)
}

// P26.11: each kind of value is put back.
func TestLoadOfEachKind(t *testing.T) {
	p, q := panelOf(t, ofEachKind()), panelOf(t, ofEachKind())
	for i, c := range ofEachKind().Cells {
		must(t, p.Force(i, someOf(c.Kind)))
	}
	must(t, q.Load(p.Save()))
	for i, c := range ofEachKind().Cells {
		has(t, q, i, someOf(c.Kind))
	}
	forced(t, q.Forced())
}
