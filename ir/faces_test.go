package ir_test

import (
	"slices"
	"testing"

	"relay/api"
	"relay/ir"
	"relay/listing"
)

// The chapter's example, and the fields that are those of the code.
func TestExample(t *testing.T) {
	one := api.Value{Kind: api.KInt, Bits: 1}
	a := api.Expr{Op: api.ExName, Kind: api.KInt, Area: api.AreaThis, Ref: 3}
	sum := api.Expr{Op: api.OpAdd, Kind: api.KInt, Kids: []api.Expr{a, {Op: api.ExLit, Kind: api.KInt, Value: one}}}
	f, why := ir.Build(api.Code{Name: "P", What: api.PouProgram, Cells: 4, Base: -1, Body: []api.Stmt{{Op: api.StSet, Exprs: []api.Expr{a, sum}, Kind: api.KInt}}})
	want := []api.Op{
		{Code: api.IrLoad, A: 0, B: api.AreaThis, C: 3}, {Code: api.IrConst, A: 1, Value: one}, {Code: api.IrDo, A: 2, B: 0, C: 1, D: api.OpAdd},
		{Code: api.IrStore, A: 2, B: api.AreaThis, C: 3}, {Code: api.IrReturn},
	}
	if why != api.OK || !slices.Equal(f.Ops, want) || f.Regs != 3 || f.Slots != 0 || len(f.Loops) != 0 {
		t.Error(f, why)
	}
	if f.Name != "P" || f.What != api.PouProgram || f.Cells != 4 || f.Base != -1 {
		t.Error(f)
	}
}

func TestFields(t *testing.T) {
	for pou, want := range map[int]api.Flat{
		plain: {Name: "PLAIN", What: api.PouFunction, Cells: 4, Base: 4, Regs: 1},
		bump:  {Name: "BUMP", What: api.PouFunction, Cells: 2, Base: 8, Regs: 6},
		blk:   {Name: "BLK", What: api.PouBlock, Cells: 5, Base: -1, Regs: 6},
		under: {Name: "P", What: api.PouProgram, Cells: 31, Base: -1},
	} {
		f := flat(t, codeOf(t, "", pou))
		if f.Name != want.Name || f.What != want.What || f.Cells != want.Cells || f.Base != want.Base || f.Regs != want.Regs || f.Slots != 0 {
			t.Error(f, "not", want)
		}
	}
}

// returns is so many statements of one instruction each.
func returns(n int) []api.Stmt {
	return slices.Repeat([]api.Stmt{{Op: api.StReturn}}, n)
}

// P17.1: MaxCode instructions are allowed, the last IrReturn among them; one more is not, wherever it comes.
func TestSize(t *testing.T) {
	truth := api.Expr{Op: api.ExLit, Kind: api.KBool, Value: api.Value{Kind: api.KBool}}
	around := func(op int, own int, n int) api.Code {
		s := api.Stmt{Op: op, Num: 1, Exprs: []api.Expr{truth, truth}, Body: returns(n - own - 1), Kind: api.KInt}
		return api.Code{Name: "P", Body: []api.Stmt{s}}
	}
	deep := func(n int) api.Code {
		e := truth
		for range n - 3 {
			e = api.Expr{Op: api.OpNot, Kids: []api.Expr{e}}
		}
		return api.Code{Body: []api.Stmt{{Op: api.StSet, Exprs: []api.Expr{{Op: api.ExName}, e}}}}
	}
	for name, made := range map[string]func(n int) api.Code{
		"a list":        func(n int) api.Code { return api.Code{Body: returns(n - 1)} },
		"an IF":         func(n int) api.Code { return around(api.StIf, 2, n) },
		"a FOR":         func(n int) api.Code { return around(api.StFor, 14, n) },
		"a WHILE":       func(n int) api.Code { return around(api.StWhile, 11, n) },
		"a REPEAT":      func(n int) api.Code { return around(api.StRepeat, 11, n) },
		"an expression": deep,
	} {
		f, why := ir.Build(made(api.MaxCode))
		if why != api.OK || len(f.Ops) != api.MaxCode || f.Ops[api.MaxCode-1].Code != api.IrReturn {
			t.Error(name, len(f.Ops), why)
		}
		for _, n := range []int{api.MaxCode + 1, api.MaxCode + 2, api.MaxCode + 20, 4 * api.MaxCode} {
			f, why = ir.Build(made(n))
			if why != api.ErrSize || f.Name != "" || f.Ops != nil || f.Loops != nil || f.Regs != 0 {
				t.Error(name, n, len(f.Ops), why)
			}
		}
	}
}

// A tree whose parts are the same memory is a tree with as many parts as ways lead to them; it ends as soon as there are too many instructions.
func TestShared(t *testing.T) {
	e := api.Expr{Op: api.ExLit}
	l := []api.Stmt{{Op: api.StReturn}}
	for range 200 {
		e = api.Expr{Op: api.OpAdd, Kids: []api.Expr{e, e}}
		l = []api.Stmt{{Op: api.StIf, Exprs: []api.Expr{{Op: api.ExName}}, Body: l, Else: l}}
	}
	for _, body := range [][]api.Stmt{l, {{Op: api.StSet, Exprs: []api.Expr{{}, e}}}} {
		if f, why := ir.Build(api.Code{Body: body}); why != api.ErrSize || f.Ops != nil {
			t.Error(why)
		}
	}
}

// all is an instruction of a Code whose fields are all told apart.
func all(code int) api.Op {
	return api.Op{Code: code, A: 11, B: 12, C: 13, D: 14, Lo: 15, Hi: 16}
}

// P17.2: what each instruction reads, gives, and where it goes on.
func TestUsesGivesNext(t *testing.T) {
	rows := map[int]struct {
		uses  []int
		gives int
		next  []int
	}{
		api.IrConst:  {nil, 11, []int{6}},
		api.IrMove:   {[]int{12}, 11, []int{6}},
		api.IrLoad:   {nil, 11, []int{6}},
		api.IrStore:  {[]int{11}, -1, []int{6}},
		api.IrLoadX:  {[]int{14}, 11, []int{6}},
		api.IrStoreX: {[]int{11, 14}, -1, []int{6}},
		api.IrRef:    {nil, 11, []int{6}},
		api.IrRefX:   {[]int{14}, 11, []int{6}},
		api.IrDo:     {[]int{12, 13}, 11, []int{6}},
		api.IrTurn:   {[]int{12}, 11, []int{6}},
		api.IrConv:   {[]int{12}, 11, []int{6}},
		api.IrArg:    {[]int{11}, -1, []int{6}},
		api.IrStd:    {nil, 11, []int{6}},
		api.IrCheck:  {[]int{11}, -1, []int{6}},
		api.IrText:   {[]int{11}, -1, []int{6}},
		api.IrJump:   {nil, -1, []int{12}},
		api.IrUnless: {[]int{11}, -1, []int{6, 12}},
		api.IrCall:   {nil, -1, []int{6}},
		api.IrBlock:  {nil, -1, []int{6}},
		api.IrFault:  {nil, -1, nil},
		api.IrReturn: {nil, -1, nil},
		api.IrSpill:  {[]int{11}, -1, []int{6}},
		api.IrFill:   {nil, 11, []int{6}},
		0:            {nil, -1, []int{6}},
		-1:           {nil, -1, []int{6}},
		api.NumIr:    {nil, -1, []int{6}},
		1 << 40:      {nil, -1, []int{6}},
	}
	for code := 1; code < api.NumIr; code++ {
		if _, is := rows[code]; !is {
			t.Error(code)
		}
	}
	for code, want := range rows {
		o := all(code)
		if !slices.Equal(ir.Uses(o), want.uses) || ir.Gives(o) != want.gives || !slices.Equal(ir.Next(o, 5), want.next) {
			t.Error(code, ir.Uses(o), ir.Gives(o), ir.Next(o, 5))
		}
	}
}

// Registers and places that an instruction names twice are told once, and places rise.
func TestTwice(t *testing.T) {
	for _, o := range []api.Op{{Code: api.IrDo, A: 3, B: 7, C: 7}, {Code: api.IrStoreX, A: 7, D: 7}} {
		if l := ir.Uses(o); !slices.Equal(l, []int{7}) {
			t.Error(o, l)
		}
	}
	if l := ir.Uses(api.Op{Code: api.IrDo, A: 1, B: 9, C: 2}); !slices.Equal(l, []int{9, 2}) {
		t.Error(l)
	}
	if l := ir.Uses(api.Op{Code: api.IrStoreX, A: 9, D: 2}); !slices.Equal(l, []int{9, 2}) {
		t.Error(l)
	}
	for _, x := range []struct {
		at, b int
		want  []int
	}{
		{0, 1, []int{1}}, {0, 0, []int{0, 1}}, {5, 6, []int{6}}, {5, 5, []int{5, 6}}, {5, 0, []int{0, 6}}, {5, 7, []int{6, 7}},
		{api.MaxCode, 0, []int{0, api.MaxCode + 1}}, {api.MaxCode - 1, api.MaxCode, []int{api.MaxCode}}, {0, api.MaxCode, []int{1, api.MaxCode}},
	} {
		if l := ir.Next(api.Op{Code: api.IrUnless, A: 3, B: x.b}, x.at); !slices.Equal(l, x.want) {
			t.Error(x, l)
		}
	}
	for _, at := range []int{0, 7, api.MaxCode} {
		if l := ir.Next(api.Op{Code: api.IrJump, B: 7}, at); !slices.Equal(l, []int{7}) {
			t.Error(at, l)
		}
		if l := ir.Next(api.Op{Code: api.IrCall, B: 7}, at); !slices.Equal(l, []int{at + 1}) {
			t.Error(at, l)
		}
	}
}

// Whatever the numbers are, the calls end; what they answer is memory of its own.
func TestAnyNumbers(t *testing.T) {
	numbers := []int{-1 << 63, -1, 0, 1, 1<<63 - 1}
	for code := -1; code <= api.NumIr; code++ {
		for _, a := range numbers {
			for _, b := range numbers {
				o := api.Op{Code: code, A: a, B: b, C: a, D: b}
				uses, next := ir.Uses(o), ir.Next(o, b)
				if len(uses) > 2 || len(next) > 2 || ir.Gives(o) != -1 && ir.Gives(o) != a {
					t.Error(o, uses, next)
				}
				for _, l := range [][]int{uses, next} {
					for i := range l {
						l[i] = 99
					}
				}
				if slices.Contains(ir.Uses(o), 99) || slices.Contains(ir.Next(o, b), 99) {
					t.Error(o)
				}
			}
		}
	}
}

// Trees that core never answers: parts that are not there are as empty ones.
func TestMissingParts(t *testing.T) {
	for op := -1; op <= api.NumEx; op++ {
		for area := range 4 {
			body := []api.Stmt{{Op: api.StSet, Exprs: []api.Expr{{Op: api.ExName}, {Op: op, Area: area, Kids: []api.Expr{}}}}}
			f := flat(t, api.Code{Body: body})
			if f.Regs == 0 || listing.Text(f) == "return" {
				t.Error(op, listing.Text(f))
			}
		}
	}
	for op := -1; op <= api.NumSt; op++ {
		for _, num := range []int{-1 << 63, -1, 0, 1, 1<<63 - 1} {
			f := flat(t, api.Code{Body: []api.Stmt{{Op: op, Num: num, Body: make([]api.Stmt, 2)}}})
			if f.Ops[len(f.Ops)-1].Code != api.IrReturn {
				t.Error(op, num)
			}
		}
	}
}
