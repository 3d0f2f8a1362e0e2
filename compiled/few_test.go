package compiled

import (
	"bytes"
	"slices"
	"testing"

	"relay/api"
	"relay/bound"
	"relay/image"
	"relay/layout"
)

// P19.4: over few registers a run comes to the same cells and the same fault; so it does where only one code is turned so.
func TestFewRegisters(t *testing.T) {
	faults, waits := map[int]int{}, 0
	each(t, 500, func(x *plant) {
		regs := 4 + x.r.Intn(5)
		one := x.r.Intn(len(x.flats))
		whole := few(t, x.flats, regs)
		part := slices.Clone(x.flats)
		part[one] = whole[one]
		for _, f := range whole {
			if f.Slots > 0 {
				waits++
			}
		}
		for _, i := range x.l {
			m := x.moment(i, 0, x.mem)
			for _, codes := range [][]api.Flat{whole, part, few(t, x.short, regs)} {
				x.steps(t, codes, m)
			}
			faults[m.fault]++
		}
	})
	if waits < 500 {
		t.Error(waits)
	}
	for f := api.FaultNone; f <= api.FaultConvert; f++ {
		if faults[f] < 2 {
			t.Error(f, faults)
		}
	}
}

// imageOf is the image of a plant over MaxRegs registers.
func imageOf(t *testing.T, x *plant) api.Image {
	t.Helper()
	m := api.Image{Name: x.p.Name, Cells: x.cells, Codes: few(t, x.short, api.MaxRegs)}
	for _, task := range x.p.Tasks {
		j := api.Job{Name: task.Name, Interval: task.Interval, Single: -1, Priority: task.Priority}
		for i, r := range x.p.Runs {
			pou, _ := layout.Pou(x.p, r.Pou)
			base, _ := layout.Run(x.p, i)
			if r.Task == task.Name {
				j.Codes, j.Bases = append(j.Codes, pou), append(j.Bases, base)
			}
		}
		m.Jobs = append(m.Jobs, j)
	}
	jobs, _, why := bound.Jobs(m)
	if why != api.OK {
		t.Fatal(why)
	}
	m.Jobs = jobs
	return m
}

// What the layers make of sources is an image that may be; its bytes are read as it is, and are written again as they were.
func TestImages(t *testing.T) {
	codes, kinds := map[int]int{}, map[api.Kind]int{}
	each(t, 500, func(x *plant) {
		m := imageOf(t, x)
		if number, place, why := image.Check(m); why != api.OK {
			t.Fatal(number, place, why)
		}
		b, why := image.Encode(m)
		if why != api.OK {
			t.Fatal(why)
		}
		back, _, why := image.Decode(b)
		again, other := image.Encode(back)
		if why != api.OK || other != api.OK || !image.Same(back, m) || !bytes.Equal(again, b) {
			t.Fatal(why, other)
		}
		for _, f := range m.Codes {
			for _, o := range f.Ops {
				codes[o.Code]++
			}
		}
		for _, c := range m.Cells {
			kinds[c.Kind]++
		}
	})
	for code := api.IrConst; code < api.NumIr; code++ {
		if codes[code] == 0 {
			t.Error(code, codes)
		}
	}
	for k := api.KBool; k <= api.KRef; k++ {
		if kinds[k] == 0 {
			t.Error(k, kinds)
		}
	}
}
