package watch_test

import (
	"bytes"
	"encoding/binary"
	"io"
	"maps"
	"math/rand"
	"slices"
	"testing"

	"relay/api"
	"relay/sched"
	"relay/value"
	"relay/watch"
)

// model is a panel as the chapter's sentences have it. Its shadow is a resource that is only asked what it would refuse: it gets all entries, and stays stopped.
type model struct {
	m         api.Image
	r, shadow *sched.Resource
	forced    map[int]api.Value
	ahead     []api.Value
}

func newModel(t *testing.T, m api.Image) *model {
	x := &model{m: m, r: resourceOf(t, m), shadow: resourceOf(t, m), forced: map[int]api.Value{}}
	x.ahead = x.r.Cells()
	return x
}

func (x *model) hold() {
	for cell, v := range x.forced {
		if x.r.Poke(cell, v) != api.OK {
			panic(cell)
		}
	}
}

func (x *model) reset(warm bool) api.Errno {
	why := x.r.Reset(warm)
	if why == api.OK {
		x.hold()
	}
	return why
}

func (x *model) force(cell int, v api.Value) api.Errno {
	if why := x.shadow.Poke(cell, v); why != api.OK {
		return why
	}
	others := maps.Clone(x.forced)
	delete(others, cell)
	if len(others) >= 64 {
		return api.ErrFull
	}
	x.forced[cell] = v
	return x.r.Poke(cell, v)
}

func (x *model) free(cell int) api.Errno {
	if _, is := x.forced[cell]; !is {
		return api.ErrForced
	}
	delete(x.forced, cell)
	return api.OK
}

func (x *model) all() []api.Force {
	var l []api.Force
	for i := range x.m.Cells {
		if v, is := x.forced[i]; is {
			l = append(l, api.Force{Cell: i, Value: v})
		}
	}
	return l
}

func (x *model) entry(advance int, inputs []api.Input) (api.Report, api.Errno) {
	if _, why := x.shadow.Entry(advance, inputs); why != api.OK {
		return api.Report{}, why
	}
	var l []api.Input
	for _, in := range inputs {
		for cell, v := range x.forced {
			if x.m.Cells[cell].Addr == in.Addr {
				in.Value = v
			}
		}
		l = append(l, in)
	}
	report, why := x.r.Entry(advance, l)
	x.hold()
	for i, o := range report.Outputs {
		for cell, v := range x.forced {
			if x.m.Cells[cell].Addr == o.Addr {
				report.Outputs[i].Value = v
			}
		}
	}
	return report, why
}

func (x *model) changed() []int {
	now := x.r.Cells()
	var l []int
	for i := range now {
		if now[i] != x.ahead[i] {
			l = append(l, i)
		}
	}
	x.ahead = now
	return l
}

// kept is a cell's value as bytes have it, but for its text.
type kept struct {
	Kind api.Kind
	Bits uint64
	Long uint8
}

func (x *model) save() []byte {
	var body bytes.Buffer
	n := uint16(0)
	for i, c := range x.m.Cells {
		if v := x.r.Cells()[i]; c.Keep {
			n++
			binary.Write(&body, binary.BigEndian, kept{v.Kind, v.Bits, uint8(len(v.Text))})
			body.WriteString(v.Text)
		}
	}
	return append(binary.BigEndian.AppendUint16([]byte("rk"), n), body.Bytes()...)
}

func (x *model) load(b []byte) api.Errno {
	if x.r.Mode() == api.ModeRun {
		return api.ErrState
	}
	in := bytes.NewReader(b)
	var head struct {
		Magic [2]byte
		Count uint16
	}
	err := binary.Read(in, binary.BigEndian, &head)
	values, want := map[int]api.Value{}, 0
	for i, c := range x.m.Cells {
		if !c.Keep || err != nil {
			continue
		}
		want++
		var k kept
		err = binary.Read(in, binary.BigEndian, &k)
		text := make([]byte, k.Long)
		if _, e := io.ReadFull(in, text); e != nil {
			err = e
		}
		v := api.Value{Kind: k.Kind, Bits: k.Bits, Text: string(text)}
		values[i] = v
		if v.Kind != c.Kind || value.Fits(api.Type{Kind: c.Kind, Sub: c.Sub, Lo: c.Lo, Hi: c.Hi, Max: c.Max}, v) != 0 {
			return api.ErrKept
		}
	}
	if err != nil || in.Len() > 0 || string(head.Magic[:]) != "rk" || int(head.Count) != want {
		return api.ErrKept
	}
	for i, v := range values {
		x.r.Poke(i, v)
	}
	x.hold()
	return api.OK
}

// someValue is a value by chance, mostly one that is for a cell.
func someValue(r *rand.Rand, c api.Cell) api.Value {
	k := c.Kind
	if r.Intn(10) == 0 {
		k = api.Kind(r.Intn(int(api.NumKind) + 1))
	}
	switch k {
	case api.KString:
		return long(r.Intn(7))
	case api.KLreal:
		return value.Lreal(float64(r.Intn(5)) - 2.5)
	case api.KBool:
		return value.Bool(r.Intn(2) == 0)
	}
	return whole(k, r.Intn(120)-8)
}

// someInputs is inputs by chance, mostly such as there are.
func someInputs(r *rand.Rand) []api.Input {
	var l []api.Input
	for range r.Intn(4) {
		c := someCells()[pick(r, cellIn, cellIn, cellWord, cellWord, r.Intn(numCells+1)%numCells)]
		if c.Dir != 1 && r.Intn(5) > 0 {
			continue
		}
		l = append(l, at(c.Addr, someValue(r, c)))
	}
	return l
}

// someJobs is tasks by chance.
func someJobs(r *rand.Rand) []api.Job {
	var jobs []api.Job
	for i := range r.Intn(4) {
		j := task(string(rune('A'+i)), r.Intn(3)*7, r.Intn(3))
		if r.Intn(3) == 0 {
			j.Single = pick(r, cellIn, cellEvent, cellOut)
		}
		for range r.Intn(4) {
			code := r.Intn(numCodes)
			if code == breaks && r.Intn(8) > 0 {
				code = sendsIn
			}
			j.Codes, j.Bases = append(j.Codes, code), append(j.Bases, 0)
		}
		jobs = append(jobs, j)
	}
	return jobs
}

// spoiled is bytes in which something may be another thing.
func spoiled(r *rand.Rand, b []byte) []byte {
	b = slices.Clone(b)
	switch r.Intn(8) {
	case 0:
		return b[:r.Intn(len(b)+1)]
	case 1:
		return append(b, byte(r.Intn(3)))
	case 2:
		b[r.Intn(len(b))]++
	case 3:
		b[r.Intn(len(b))] = byte(r.Intn(256))
	}
	return b
}

// P26.1 to P26.5, P26.9, P26.13: whatever is called, a panel answers what the chapter's sentences have.
func TestPanelModel(t *testing.T) {
	r := rand.New(rand.NewSource(1))
	why := map[api.Errno]int{}
	count, faults, changes := 0, 0, 0
	for range 3000 {
		m := imageOf(t, someJobs(r)...)
		p, x := panelOf(t, m), newModel(t, m)
		saved := x.save()
		for range 25 {
			var got, want api.Errno
			cell := pick(r, r.Intn(numCells), r.Intn(numCells), r.Intn(numCells), -1, numCells)
			v := yes
			if cell >= 0 && cell < numCells {
				v = someValue(r, m.Cells[cell])
			}
			switch r.Intn(14) {
			case 0, 1:
				got, want = p.Start(), x.r.Start()
			case 2:
				got, want = p.Stop(), x.r.Stop()
			case 3:
				warm := r.Intn(2) == 0
				got, want = p.Reset(warm), x.reset(warm)
			case 4, 5:
				got, want = p.Force(cell, v), x.force(cell, v)
			case 6:
				got, want = p.Free(cell), x.free(cell)
			case 7:
				if l, model := p.Changed(), x.changed(); !slices.Equal(l, model) {
					t.Fatal(l, model)
				} else if len(l) > 0 {
					changes++
				}
				if l := p.Changed(); len(l) > 0 {
					t.Fatal(l)
				}
			case 8:
				saved = x.save()
			case 9:
				b := spoiled(r, saved)
				got, want = p.Load(b), x.load(b)
			default:
				advance, inputs := pick(r, 0, 1, 7, 20, 20, 20, -1, api.MaxAdvance+1), someInputs(r)
				var a, b api.Report
				a, got = p.Entry(advance, inputs)
				b, want = x.entry(advance, inputs)
				if !sameReport(a, b) {
					t.Fatal(a, b)
				}
				if a.Fault != 0 {
					faults++
				}
			}
			if got != want {
				t.Fatal(got, want)
			}
			why[got]++
			count++
			held(t, p)
			if !slices.Equal(cellsOf(t, p), x.r.Cells()) || !slices.Equal(p.Forced(), x.all()) || !bytes.Equal(p.Save(), x.save()) {
				t.Fatal(cellsOf(t, p), x.r.Cells(), p.Forced(), x.all())
			}
		}
	}
	for _, e := range []api.Errno{api.OK, api.ErrArg, api.ErrState, api.ErrTime, api.ErrInput, api.ErrForced, api.ErrKept} {
		if why[e] < count/500 {
			t.Error(e, why)
		}
	}
	if faults < 100 || changes < 1000 {
		t.Error(faults, changes)
	}
}

// twins is a pair as the chapter's sentences have it: each side has done so many of what the leader did.
type twins struct {
	side  [2]*sched.Resource
	up    [2]bool
	leads int
	queue []api.Entry
}

// other is the other side, if it is up and one leads.
func (x *twins) other() *sched.Resource {
	if x.leads < 0 || !x.up[1-x.leads] {
		return nil
	}
	return x.side[1-x.leads]
}

func (x *twins) follow(n int) int {
	done := 0
	for ; x.other() != nil && done < n && len(x.queue) > 0; done++ {
		x.other().Entry(x.queue[0].Advance, x.queue[0].Inputs)
		x.queue = x.queue[1:]
	}
	return done
}

func (x *twins) start() api.Errno {
	if x.leads < 0 {
		return api.ErrSide
	}
	why := x.side[x.leads].Start()
	if why == api.OK && x.other() != nil {
		x.follow(100)
		x.other().Start()
	}
	return why
}

func (x *twins) entry(advance int, inputs []api.Input) (api.Report, api.Errno) {
	if x.leads < 0 {
		return api.Report{}, api.ErrSide
	}
	report, why := x.side[x.leads].Entry(advance, inputs)
	if why == api.OK && x.other() != nil {
		if len(x.queue) == 16 {
			x.follow(1)
		}
		x.queue = append(x.queue, api.Entry{Advance: advance, Inputs: slices.Clone(inputs)})
	}
	return report, why
}

func (x *twins) down(side int) api.Errno {
	if side < 0 || side > 1 {
		return api.ErrArg
	}
	if !x.up[side] {
		return api.ErrSide
	}
	if x.leads != side {
		x.queue = nil
	} else if x.up[1-side] {
		x.follow(100)
		x.leads = 1 - side
	} else {
		x.leads = -1
	}
	x.up[side] = false
	return api.OK
}

// P26.6, P26.7: whatever is called, a pair answers what the chapter's sentences have.
func TestPairModel(t *testing.T) {
	r := rand.New(rand.NewSource(2))
	why := map[api.Errno]int{}
	full, followed := 0, 0
	for range 2000 {
		m := imageOf(t, someJobs(r)...)
		x := twinOf(t, m)
		y := &twins{side: [2]*sched.Resource{resourceOf(t, m), resourceOf(t, m)}, up: [2]bool{true, true}}
		rare := pick(r, 5, 50)
		for range 40 {
			var got, want api.Errno
			switch n := r.Intn(rare + 10); n {
			case 0:
				side := pick(r, 0, 1, 0, 1, 2, -1)
				got, want = x.Down(side), y.down(side)
			case 1, 2:
				got, want = x.Start(), y.start()
			case 3, 4:
				n := r.Intn(20) - 1
				a, b := x.Follow(n), y.follow(n)
				if a != b {
					t.Fatal(n, a, b)
				}
				followed += a
			default:
				advance, inputs := pick(r, 0, 1, 7, 20, 20, 20, -1), someInputs(r)
				var a, b api.Report
				a, got = x.Entry(advance, inputs)
				b, want = y.entry(advance, inputs)
				if !sameReport(a, b) {
					t.Fatal(a, b)
				}
			}
			if len(y.queue) == 16 {
				full++
			}
			if got != want || x.Leads() != y.leads || !slices.Equal(x.Cells(0), y.side[0].Cells()) || !slices.Equal(x.Cells(1), y.side[1].Cells()) {
				t.Fatal(got, want, x.Leads(), y.leads)
			}
			why[got]++
		}
	}
	for _, e := range []api.Errno{api.OK, api.ErrArg, api.ErrState, api.ErrTime, api.ErrInput, api.ErrSide} {
		if why[e] < 50 {
			t.Error(e, why)
		}
	}
	if full < 1000 || followed < 1000 {
		t.Error(full, followed)
	}
}

var _ enters = (*watch.Pair)(nil)
