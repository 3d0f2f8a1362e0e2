package plc_test

import (
	"bytes"
	"math/rand"
	"slices"
	"strconv"
	"testing"

	"relay/api"
	"relay/bound"
	"relay/image"
	"relay/listing"
	"relay/plc"
	"relay/samples"
)

// encoded is the bytes of an image.
func encoded(t *testing.T, m api.Image) []byte {
	t.Helper()
	b, why := image.Encode(m)
	if why != api.OK {
		t.Fatal(why)
	}
	return b
}

// hand is an image of one task without an interval, which runs the first of codes of listings, all of which are programs.
func hand(t *testing.T, bound int, codes ...string) api.Image {
	t.Helper()
	m := api.Image{Name: "M", Jobs: []api.Job{{Name: "T", Single: -1, Codes: []int{0}, Bases: []int{0}, Bound: bound}}}
	for _, text := range codes {
		f, is := listing.Read(text)
		if !is {
			t.Fatal(text)
		}
		f.Name, f.What, f.Base, f.Regs = "P", api.PouProgram, -1, api.MaxRegs
		m.Codes = append(m.Codes, f)
	}
	return m
}

// P24.3: an image that may be, whose tasks have their bounds; else why not.
func TestLoad(t *testing.T) {
	for _, sources := range [][]string{several(), {plain, config}, {crowded("p", 5, 9), config}} {
		m := compiled(t, sources...)
		got, why := plc.Load(encoded(t, m))
		if why != api.OK || !image.Same(got, m) {
			t.Error(why, got, m)
		}
	}
	deep := calls(api.MaxCalls + 1)
	never := hand(t, 1, "return", "jump", "call B2 C2; return")
	never.Jobs = append(never.Jobs, api.Job{Name: "U", Single: -1})
	great := "const LINT#0; const A1 FALSE; unless A1 B5; move; jump B2; return; loop 2 5 65536; loop 2 5 65536"
	for i, x := range []struct {
		m   api.Image
		why api.Errno
	}{
		{hand(t, 1, "return"), api.OK}, {hand(t, 0, "return"), api.ErrJob}, {hand(t, 2, "return"), api.ErrJob}, {never, api.OK},
		{hand(t, 5, "call B1 C2; call B1 C2; return", "return"), api.OK}, {hand(t, 4, "call B1 C2; call B1 C2; return", "return"), api.ErrJob},
		{hand(t, 1, "jump"), api.ErrCycle}, {hand(t, 2, "call C2; return"), api.ErrCycle},
		{hand(t, 2*api.MaxCalls+1, deep...), api.ErrGreat}, {hand(t, 7, deep...), api.ErrGreat}, {hand(t, 2*api.MaxCalls-1, calls(api.MaxCalls)...), api.OK},
		{hand(t, 9, great), api.ErrGreat},
	} {
		got, why := plc.Load(encoded(t, x.m))
		if why != x.why || why == api.OK && !image.Same(got, x.m) || why != api.OK && !isEmptyImage(got) {
			t.Error(i, why, got)
		}
	}
	// What bound says of any task comes first, then depths, then bounds.
	m := hand(t, 9, deep...)
	m.Codes = append(m.Codes, hand(t, 1, "jump B17").Codes...)
	m.Codes[api.MaxCalls+1].Ops[0].B = 0
	m.Jobs = append(m.Jobs, api.Job{Name: "U", Single: -1, Codes: []int{api.MaxCalls + 1}, Bases: []int{0}})
	if _, why := plc.Load(encoded(t, m)); why != api.ErrCycle {
		t.Error(why)
	}
	m.Jobs[0], m.Jobs[1] = api.Job{Name: "U", Single: -1, Codes: []int{api.MaxCalls}, Bases: []int{0}, Bound: 9}, m.Jobs[0]
	if _, why := plc.Load(encoded(t, m)); why != api.ErrGreat {
		t.Error(why)
	}
}

// calls is n codes, each of which calls the next one.
func calls(n int) []string {
	var l []string
	for i := range n - 1 {
		l = append(l, "call B"+strconv.Itoa(i+1)+" C2; return")
	}
	return append(l, "return")
}

// P24.3: what is no image is refused as image.Decode says; the bytes stay.
func TestLoadOfBytes(t *testing.T) {
	b := encoded(t, compiled(t, several()...))
	why := map[api.Errno]int{}
	r := rand.New(rand.NewSource(1))
	for range 3000 {
		file := slices.Clone(b)
		switch r.Intn(4) {
		case 0:
			file = file[:r.Intn(len(file))]
		case 1:
			file = append(file, byte(r.Intn(256)))
		case 2:
			file[r.Intn(len(file))] ^= 1 << r.Intn(8)
		case 3:
			file[r.Intn(len(file)-4)] ^= 1 << r.Intn(8)
			seal(file)
		}
		given := slices.Clone(file)
		m, got := plc.Load(file)
		decoded, _, want := image.Decode(given)
		if !bytes.Equal(file, given) || want != api.OK && (got != want || !isEmptyImage(m)) || got == api.OK && !image.Same(m, decoded) {
			t.Fatal(got, want)
		}
		why[got]++
	}
	for _, w := range []api.Errno{api.OK, api.ErrShort, api.ErrSum, api.ErrMagic, api.ErrCode, api.ErrCell, api.ErrJob} {
		if why[w] == 0 {
			t.Error(w, why)
		}
	}
}

// seal puts the check sum of bytes behind them, as chapter 20 has it.
func seal(b []byte) {
	c := uint32(1<<32 - 1)
	for _, x := range b[:len(b)-4] {
		c ^= uint32(x)
		for range 8 {
			odd := c & 1
			c >>= 1
			if odd == 1 {
				c ^= 0xedb88320
			}
		}
	}
	c ^= 1<<32 - 1
	for i := range 4 {
		b[len(b)-4+i] = byte(c >> (8 * i))
	}
}

// P24.7: what Compile makes is loaded as it is, and again.
func TestLoaded(t *testing.T) {
	each(300, func(_ *rand.Rand, sources []string) {
		m := compiled(t, sources...)
		b := encoded(t, m)
		got, why := plc.Load(b)
		if why != api.OK || !image.Same(got, m) || !bytes.Equal(encoded(t, got), b) {
			t.Fatalf("%q: %v", sources, why)
		}
	})
}

// changed is an image that may be, some of whose instructions are others, with the bounds that it has then, if it has some.
func changed(r *rand.Rand, m api.Image) api.Image {
	var all []*api.Op
	for i := range m.Codes {
		f := &m.Codes[i]
		f.Ops = slices.Clone(f.Ops)
		for k := range f.Ops {
			all = append(all, &f.Ops[k])
		}
	}
	for range 30 {
		o := pick(r, all...)
		was := *o
		switch field := pick(r, &o.A, &o.B, &o.C, &o.D, &o.Lo, &o.Hi); r.Intn(4) {
		case 0:
			*o = *pick(r, all...)
		case 1:
			o.Value.Bits ^= 1 << r.Intn(64)
		default:
			*field += r.Intn(5) - 2
		}
		if _, _, why := image.Check(m); why != api.OK {
			*o = was
		}
	}
	if jobs, _, why := bound.Jobs(m); why == api.OK {
		m.Jobs = jobs
	}
	return m
}

// P24.11, P4: bytes that are no longer those of a compiled image are refused, or are an image that plays under any script, or has an entry that can't be.
func TestRefusedOrItRuns(t *testing.T) {
	refused, runs, faults := 0, 0, map[int]int{}
	each(60, func(r *rand.Rand, sources []string) {
		m := compiled(t, sources...)
		b := encoded(t, m)
		for k := range 60 {
			file := slices.Clone(b)
			file[4+r.Intn(len(file)-8)] ^= byte(1 << r.Intn(8))
			if odd, why := image.Encode(changed(r, m)); k%2 > 0 && why == api.OK {
				file = odd
			}
			seal(file)
			m, why := plc.Load(file)
			if why != api.OK {
				refused++
				continue
			}
			runs++
			script := samples.Script(r.Intn, m.Cells, 4)
			l := played(t, m, script)
			for _, x := range l {
				if x.Mode != api.ModeRun && x.Mode != api.ModeFault || (x.Fault != 0) != (x.In != "") {
					t.Fatal(x)
				}
				faults[x.Fault]++
			}
			checkBounded(t, m, l)
			if _, why := plc.Play(m, append(script, api.Entry{Advance: -1})); why != api.ErrTime {
				t.Fatal(why)
			}
		}
	})
	if refused < 1000 || runs < 500 || faults[api.FaultKind] < 20 || faults[api.FaultRef] < 5 {
		t.Error(refused, runs, faults)
	}
}

// checkBounded checks P24.9: Steps are at most the bounds of those that ran, together.
func checkBounded(t *testing.T, m api.Image, l []api.Report) {
	t.Helper()
	for _, x := range l {
		most := 0
		for _, j := range m.Jobs {
			if slices.Contains(x.Ran, j.Name) {
				most += j.Bound
			}
		}
		if x.Steps > most {
			t.Fatal(x, most)
		}
	}
}
