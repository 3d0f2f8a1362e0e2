package blocks_test

import (
	"reflect"
	"slices"
	"strings"
	"testing"

	"relay/api"
	"relay/blocks"
	"relay/value"
)

// P10.1: numbers, names, variables, sizes, beginnings.
func TestTable(t *testing.T) {
	for _, kind := range allKinds() {
		name, vars := nameOf(kind), varsOf(kind)
		if k, ok := blocks.Kind(name); k != kind || !ok {
			t.Error(name, k, ok)
		}
		if s := blocks.Name(kind); s != name {
			t.Error(kind, s)
		}
		if n := blocks.Size(kind); n != len(vars) {
			t.Error(name, n)
		}
		if l := blocks.Vars(kind); !reflect.DeepEqual(l, vars) {
			t.Errorf("%s: %v, want %v", name, l, vars)
		}
		var start []api.Value
		for _, v := range vars {
			start = append(start, value.Zero(v.Type.Kind))
		}
		if kind == api.FbFall {
			start[2] = value.Bool(true)
		}
		if l := blocks.Start(kind); !slices.Equal(l, start) {
			t.Errorf("%s: %v, want %v", name, l, start)
		}
	}
	if l := allKinds(); len(l) != api.NumFbs-1 || l[0] != 1 || l[9] != 10 {
		t.Error(l)
	}
}

// P10.1: names and numbers that are none.
func TestNone(t *testing.T) {
	names := []string{"", " ", "T", "SR ", " SR", "RTRIG", "R_TRIG_", "CTUDX", "TONN", "ADD", "\x00", "FbSr", strings.Repeat("T", 1<<16)}
	for _, kind := range allKinds() {
		names = append(names, strings.ToLower(nameOf(kind)), nameOf(kind)[:1]+strings.ToLower(nameOf(kind)[1:]))
	}
	for _, name := range names {
		if k, ok := blocks.Kind(name); k != 0 || ok {
			t.Errorf("Kind(%q): %d", name, k)
		}
	}
	for _, kind := range noKinds() {
		if s := blocks.Name(kind); s != "" {
			t.Error(kind, s)
		}
		if n := blocks.Size(kind); n != 0 {
			t.Error(kind, n)
		}
		if l := blocks.Vars(kind); len(l) != 0 {
			t.Error(kind, l)
		}
		if l := blocks.Start(kind); len(l) != 0 {
			t.Error(kind, l)
		}
		for n := range 12 {
			checkRefused(t, kind, slices.Repeat([]api.Value{value.Bool(true)}, n))
		}
	}
}

func checkRefused(t *testing.T, kind int, cells []api.Value) {
	t.Helper()
	for _, now := range []int{0, 5, -1, 1 << 62, -1 << 63, 1<<63 - 1} {
		if l, f := blocks.Step(kind, cells, now); len(l) != 0 || f != api.FaultKind {
			t.Fatalf("Step(%d, %v, %d): %v, %d", kind, cells, now, l, f)
		}
	}
}

// P10.2: cells that are too few, too many, of another kind, or that may not be.
func TestRefused(t *testing.T) {
	for _, kind := range allKinds() {
		cells := blocks.Start(kind)
		for n := range len(cells) {
			checkRefused(t, kind, cells[:n])
		}
		checkRefused(t, kind, nil)
		for _, k := range []api.Kind{api.KBool, api.KInt, api.KTime} {
			checkRefused(t, kind, append(slices.Clone(cells), value.Zero(k)))
		}
		checkRefused(t, kind, slices.Repeat(cells, 2))
		for i := range cells {
			right := cells[i]
			for k := range api.NumKind + 3 {
				if api.Kind(k) != right.Kind {
					cells[i] = api.Value{Kind: api.Kind(k)}
					checkRefused(t, kind, cells)
				}
			}
			wrong := []api.Value{{Kind: right.Kind, Text: "x"}, {Kind: right.Kind, Bits: 1, Text: "\x00"}}
			switch right.Kind {
			case api.KBool:
				wrong = append(wrong, api.Value{Kind: right.Kind, Bits: 2}, api.Value{Kind: right.Kind, Bits: ^uint64(0)}, api.Value{Kind: right.Kind, Bits: 1 << 32})
			case api.KInt:
				wrong = append(wrong, api.Value{Kind: right.Kind, Bits: 1 << 15}, api.Value{Kind: right.Kind, Bits: 65535}, api.Value{Kind: right.Kind, Bits: ^uint64(1 << 15)})
			}
			for _, v := range wrong {
				cells[i] = v
				checkRefused(t, kind, cells)
			}
			cells[i] = right
		}
		if l, f := blocks.Step(kind, cells, 0); len(l) != len(cells) || f != 0 {
			t.Error(kind, l, f)
		}
	}
}

// numbers is what the tests put into a variable of a kind.
func numbers(k api.Kind) []int {
	switch k {
	case api.KBool:
		return []int{0, 1}
	case api.KInt:
		return []int{-32768, -32767, -1, 0, 1, 2, 32766, 32767}
	}
	return []int{-1 << 63, -1, 0, 1, 9, 10, 11, 1 << 62, 1<<63 - 1}
}

// P10.2, P10.8, P10.9: each step from all cells, at all times, is as the chapter's sentences say; it leaves the inputs, and may be stepped on.
func TestStep(t *testing.T) {
	for _, kind := range allKinds() {
		vars, s := varsOf(kind), state{}
		steps := 0
		var fill func(i int)
		fill = func(i int) {
			if i < len(vars) {
				for _, n := range numbers(vars[i].Type.Kind) {
					s[vars[i].Name] = n
					fill(i + 1)
				}
				return
			}
			times := []int{0, -1 << 63}
			if kind >= api.FbTp {
				times = []int{0, 10, 11, 20, 1 << 62, -1, -1 << 63, 1<<62 + 1, 1<<63 - 1}
			}
			for _, now := range times {
				checkStep(t, kind, s, now)
				steps++
			}
		}
		fill(0)
		if steps < 2*8 {
			t.Error(nameOf(kind), steps)
		}
	}
}

func checkStep(t *testing.T, kind int, s state, now int) {
	t.Helper()
	cells := cellsOf(kind, s)
	after, fault := blocks.Step(kind, cells, now)
	if fault != 0 || len(after) != len(cells) {
		t.Fatalf("%s, %v at %d: %v, %d", nameOf(kind), s, now, after, fault)
	}
	want := stateOf(kind, cells)
	want.step(kind, min(max(now, 0), 1<<62))
	if !slices.Equal(after, cellsOf(kind, want)) {
		t.Fatalf("%s, %v at %d: %v, want %v", nameOf(kind), s, now, stateOf(kind, after), want)
	}
	for i, v := range varsOf(kind) {
		if !value.May(after[i]) || after[i].Kind != v.Type.Kind {
			t.Fatalf("%s, %v at %d: %s is %v", nameOf(kind), s, now, v.Name, after[i])
		}
		if v.Class == api.VarIn && after[i] != cells[i] {
			t.Fatalf("%s, %v at %d: %s has changed", nameOf(kind), s, now, v.Name)
		}
	}
}

// What is handed in stays, its spare room too; what is answered is memory of its own.
func TestMemory(t *testing.T) {
	for _, kind := range allKinds() {
		size := blocks.Size(kind)
		room := append(blocks.Start(kind), slices.Repeat([]api.Value{{Kind: api.KString, Text: "room"}}, 5)...)
		room[0].Bits = 1
		ahead := slices.Clone(room)
		one, _ := blocks.Step(kind, room[:size], 5)
		two, _ := blocks.Step(kind, room[:size], 5)
		if !slices.Equal(room, ahead) {
			t.Error(kind, room)
		}
		spoil(one)
		if !slices.Equal(room, ahead) || slices.Contains(two[:cap(two)], api.Value{Kind: 77}) {
			t.Error(kind, "shared cells")
		}
		starts := [][]api.Value{blocks.Start(kind), blocks.Start(kind)}
		spoil(starts[0])
		if slices.Contains(starts[1][:cap(starts[1])], api.Value{Kind: 77}) || slices.Contains(blocks.Start(kind), api.Value{Kind: 77}) {
			t.Error(kind, "shared beginnings")
		}
		vars := blocks.Vars(kind)
		for i := range vars[:cap(vars)] {
			spoil(vars[:cap(vars)][i].Init)
			vars[:cap(vars)][i].Name = "spoilt"
		}
		if !reflect.DeepEqual(blocks.Vars(kind), varsOf(kind)) || slices.Contains(blocks.Start(kind), api.Value{Kind: 77}) {
			t.Error(kind, "shared variables")
		}
	}
}

func spoil(l []api.Value) {
	for i := range l[:cap(l)] {
		l[:cap(l)][i] = api.Value{Kind: 77}
	}
}
