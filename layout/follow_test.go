package layout_test

import (
	"slices"
	"strconv"
	"strings"
	"testing"

	"relay/api"
	"relay/layout"
	"relay/value"
)

// some yields projects by chance.
func some(t *testing.T, count int, do func(m maker, p api.Project)) {
	t.Helper()
	for seed := range int64(count) {
		m := newMaker(seed)
		p := project(t, m.sources()...)
		if m.rarely(2) {
			p = m.hide(p)
		}
		do(m, p)
	}
}

// extent is a thing's first cell, and how many it has.
type extent struct{ at, count int }

// parts tells whether extents part so many cells: none lies in two, each in one.
func parts(all int, l []extent) bool {
	owners := make([]int, all)
	for _, x := range l {
		for i := range x.count {
			if x.at+i < 0 || x.at+i >= all {
				return false
			}
			owners[x.at+i]++
		}
	}
	for _, n := range owners {
		if n != 1 {
			return false
		}
	}
	return true
}

// P14.6: each cell of an instance belongs to one variable, each cell of the resource to one global, frame or instance.
func TestApart(t *testing.T) {
	some(t, 1500, func(m maker, p api.Project) {
		for i, u := range p.Pous {
			size, why := layout.Size(p, i)
			if why != api.OK {
				continue
			}
			var l []extent
			for _, v := range modelVars(u) {
				at, _, is := layout.Find(p, i, v.Name)
				n, _ := modelCount(p, v)
				if !is {
					t.Fatal(u.Name, v.Name)
				}
				l = append(l, extent{at, n})
			}
			if !parts(size, l) {
				t.Fatalf("%s %d %v", u.Name, size, l)
			}
		}
		cells, _, err := layout.Cells(p)
		if err != nil {
			return
		}
		var l []extent
		for _, v := range p.Globals {
			at, _, _ := layout.Global(p, v.Name)
			l = append(l, extent{at, len(modelGlobal(v))})
		}
		for i, u := range p.Pous {
			if at, is := layout.Base(p, i); is {
				n, _ := layout.Size(p, i)
				l = append(l, extent{at, n})
			} else if u.What == api.PouFunction {
				t.Fatal(u)
			}
		}
		for i, r := range p.Runs {
			at, _ := layout.Run(p, i)
			pou, _ := layout.Pou(p, r.Pou)
			n, _ := layout.Size(p, pou)
			l = append(l, extent{at, n})
		}
		if !parts(len(cells), l) {
			t.Fatalf("%d %v", len(cells), l)
		}
	})
}

// P14.7: each initial value is for its cell.
func TestTheyFit(t *testing.T) {
	seen := map[api.Kind]int{}
	some(t, 1500, func(m maker, p api.Project) {
		l, _, _ := layout.Cells(p)
		for _, c := range l {
			seen[c.Kind]++
			if c.Kind == api.KRef {
				if c.Init != (api.Value{Kind: api.KRef}) || c.Keep || c.Sub || c.Lo != 0 || c.Hi != 0 || c.Max != 0 {
					t.Fatal(c)
				}
				continue
			}
			if value.Fits(api.Type{Kind: c.Kind, Sub: c.Sub, Lo: c.Lo, Hi: c.Hi, Max: c.Max}, c.Init) != 0 {
				t.Fatal(c)
			}
		}
	})
	for k := api.KBool; k <= api.KRef; k++ {
		if seen[k] < 20 {
			t.Error(k, seen[k])
		}
	}
}

// unkept is cells, all as if they were not kept.
func unkept(l []api.Cell) []api.Cell {
	out := append([]api.Cell{}, l...)
	for i := range out {
		out[i].Keep = false
	}
	return out
}

// P14.8: instances of one program are alike; one within another one is as one by itself, but for what is kept.
func TestAlike(t *testing.T) {
	twins, within := 0, 0
	some(t, 2000, func(m maker, p api.Project) {
		cells, _, err := layout.Cells(p)
		if err != nil {
			return
		}
		instances := map[string][]api.Cell{}
		for i, r := range p.Runs {
			at, _ := layout.Run(p, i)
			pou, _ := layout.Pou(p, r.Pou)
			n, _ := layout.Size(p, pou)
			mine := cells[at : at+n]
			if other, is := instances[r.Pou]; is {
				twins++
				if !slices.Equal(mine, other) {
					t.Fatal(mine, other)
				}
			}
			instances[r.Pou] = mine
			for _, v := range p.Pous[pou].Vars {
				block := modelPou(p, api.PouBlock, v.Type.Block)
				if block == nil {
					continue
				}
				// The block by itself: as if it were the program of a run.
				alone := p
				alone.Globals, alone.Runs = nil, []api.Run{{Pou: "_ALONE"}}
				alone.Pous = append(append([]api.Pou{}, p.Pous...), *block)
				alone.Pous[len(p.Pous)].What, alone.Pous[len(p.Pous)].Name = api.PouProgram, "_ALONE"
				all, _, err := layout.Cells(alone)
				from, _ := layout.Run(alone, 0)
				offset, _, _ := layout.Find(p, pou, v.Name)
				if err != nil || !slices.Equal(unkept(all[from:]), unkept(mine[offset:offset+len(all)-from])) {
					t.Fatalf("%s %s %v", r.Pou, v.Name, err)
				}
				within += len(all) - from
			}
		}
	})
	if twins < 100 || within < 300 {
		t.Error(twins, within)
	}
}

// P14.9: a further POU, global or run behind all others changes no cell ahead of it.
func TestWhatIsAdded(t *testing.T) {
	added := map[string]int{}
	some(t, 3000, func(m maker, p api.Project) {
		before, _, err := layout.Cells(p)
		if err != nil {
			return
		}
		more, what, ahead := p, m.pick("function", "block", "program", "global", "run"), len(before)
		switch what {
		case "global":
			more.Globals = append(append([]api.Var{}, p.Globals...), api.Var{Name: "MORE", Class: api.VarGlobal, Type: api.Type{Kind: api.KInt}})
			ahead, _, _ = layout.Global(more, "MORE")
		case "run":
			if modelPou(p, api.PouProgram, "P0") == nil {
				return
			}
			more.Runs = append(append([]api.Run{}, p.Runs...), api.Run{Name: "MORE", Pou: "P0"})
		default:
			head := map[string]string{"function": "FUNCTION more : INT", "block": "FUNCTION_BLOCK more", "program": "PROGRAM more"}[what]
			word, _, _ := strings.Cut(head, " ")
			further := project(t, head+" VAR a : INT := 5; END_VAR END_"+word)
			more.Pous = append(append([]api.Pou{}, p.Pous...), further.Pous[0])
			if what == "function" {
				ahead, _ = layout.Base(more, len(p.Pous))
			}
		}
		after, _, err := layout.Cells(more)
		if err != nil || len(after) < ahead || !slices.Equal(after[:ahead], before[:ahead]) {
			t.Fatalf("%s: %v", what, err)
		}
		added[what]++
	})
	for _, what := range []string{"function", "block", "program", "global", "run"} {
		if added[what] < 100 {
			t.Error(what, added)
		}
	}
}

// Instances without cells within one another, in numbers beyond all counting; and long rows of blocks.
func TestGreat(t *testing.T) {
	text := ""
	for i := range 60 {
		text += "b" + strconv.Itoa(i) + ": b" + strconv.Itoa(i+1) + " b" + strconv.Itoa(i+1) + " b" + strconv.Itoa(i+1) + "; "
	}
	p := project(t, blocksOf(text+"b60"), "PROGRAM p VAR x : b0; y : INT; END_VAR END_PROGRAM CONFIGURATION c RESOURCE r ON x PROGRAM m : p; END_RESOURCE END_CONFIGURATION")
	if l, _, err := layout.Cells(p); len(l) != 1 || err != nil {
		t.Error(len(l), err)
	}
	if at, _, is := layout.Find(p, 61, "Y"); at != 0 || !is {
		t.Error(at, is)
	}
	// One cell at the end of them is far too many.
	p.Pous[60].Vars = []api.Var{{Name: "Z", Class: api.VarLocal, Type: api.Type{Kind: api.KBool}}}
	if n, why := layout.Size(p, 60); n != 1 || why != api.OK {
		t.Error(n, why)
	}
	if n, why := layout.Size(p, 0); n != 0 || why != api.ErrFull {
		t.Error(n, why)
	}
	// A row of blocks as long as may be, open and shut.
	const count = 1 << 16
	row := api.Project{Runs: []api.Run{{Pou: "P"}}}
	for i := range count {
		row.Pous = append(row.Pous, api.Pou{What: api.PouBlock, Name: "B" + strconv.Itoa(i), Vars: []api.Var{{Name: "X", Class: api.VarLocal, Type: api.Type{Block: "B" + strconv.Itoa(i+1)}}}})
	}
	row.Pous[count-1].Vars[0].Type.Block = "SR"
	row.Pous = append(row.Pous, api.Pou{What: api.PouProgram, Name: "P", Vars: []api.Var{{Class: api.VarLocal, Type: api.Type{Block: "B0"}}}})
	if l, _, err := layout.Cells(row); len(l) != 3 || err != nil {
		t.Error(len(l), err)
	}
	row.Pous[count-1].Vars[0].Type.Block = "B0"
	if _, _, err := layout.Cells(row); err != error(api.Fault{Why: api.ErrNest}) {
		t.Error(err)
	}
	row.Pous[count-1].Vars[0].Type.Block = "B5"
	for i := range 7 {
		if _, why := layout.Size(row, i); why != api.ErrNest {
			t.Error(i, why)
		}
	}
}
