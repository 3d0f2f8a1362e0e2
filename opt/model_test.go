package opt_test

import (
	"relay/api"
	"relay/ir"
	"relay/value"
)

// The rules of the chapter, sentence by sentence, each looking at the instructions as they stood ahead of it, without a thought of how long that takes.

func leads(o api.Op) bool { return o.Code == api.IrJump || o.Code == api.IrUnless }

// begins tells whether a stretch begins at a place.
func begins(f api.Flat, at int) bool {
	if at == 0 {
		return true
	}
	for _, o := range f.Ops {
		if leads(o) && o.B == at {
			return true
		}
	}
	for _, l := range f.Loops {
		if l.Head == at || l.End == at {
			return true
		}
	}
	switch f.Ops[at-1].Code {
	case api.IrJump, api.IrUnless, api.IrFault, api.IrReturn:
		return true
	}
	return false
}

// knownAt is a register's value at an instruction, if it is known.
func knownAt(f api.Flat, starts []bool, at, reg int) (api.Value, bool) {
	for !starts[at] {
		at--
		if o := f.Ops[at]; ir.Gives(o) == reg {
			return o.Value, o.Code == api.IrConst
		}
	}
	return api.Value{}, false
}

// drop is a code without those instructions that go out.
func drop(f api.Flat, goes func(at int) bool) api.Flat {
	to := make([]int, len(f.Ops)+1) // where each place comes to
	var ops []api.Op
	for at := range f.Ops {
		to[at] = len(ops)
		if !goes(at) {
			ops = append(ops, f.Ops[at])
		}
	}
	to[len(f.Ops)] = len(ops)
	for i := range ops {
		if leads(ops[i]) {
			ops[i].B = to[ops[i].B]
		}
	}
	var loops []api.Loop
	for _, l := range f.Loops {
		loops = append(loops, api.Loop{Head: to[l.Head], End: to[l.End], Times: l.Times})
	}
	f.Ops, f.Loops = ops, loops
	return f
}

func modelKnown(f api.Flat) api.Flat {
	starts := make([]bool, len(f.Ops))
	for at := range f.Ops {
		starts[at] = begins(f, at)
	}
	goes := make([]bool, len(f.Ops))
	ops := append([]api.Op{}, f.Ops...)
	for at, o := range f.Ops {
		var values []api.Value
		isKnown := true
		for _, reg := range ir.Uses(o) {
			v, is := knownAt(f, starts, at, reg)
			values, isKnown = append(values, v), isKnown && is
		}
		if !isKnown {
			continue
		}
		switch o.Code {
		case api.IrMove, api.IrDo, api.IrTurn, api.IrConv:
			if v, is := modelFold(o, values); is {
				ops[at] = api.Op{Code: api.IrConst, A: o.A, Value: v}
			}
		case api.IrCheck:
			n, is := value.Number(values[0])
			goes[at] = is && values[0].Kind >= api.KSint && values[0].Kind <= api.KUlint && o.Lo <= n && n <= o.Hi
		case api.IrText:
			goes[at] = values[0].Kind == api.KString && len(values[0].Text) <= o.Hi
		case api.IrUnless:
			goes[at] = values[0] == value.Bool(true)
			if values[0] == value.Bool(false) {
				ops[at] = api.Op{Code: api.IrJump, B: o.B}
			}
		}
	}
	f.Ops = ops
	return drop(f, func(at int) bool { return goes[at] })
}

// modelFold is what Fold must answer.
func modelFold(o api.Op, known []api.Value) (api.Value, bool) {
	for _, v := range known {
		if !value.May(v) {
			return api.Value{}, false
		}
	}
	v, fault := api.Value{}, api.FaultKind
	switch {
	case o.Code == api.IrConst && len(known) == 0:
		return o.Value, true
	case o.Code == api.IrMove && len(known) == 1:
		return known[0], true
	case o.Code == api.IrDo && o.B == o.C && len(known) == 1:
		v, fault = value.Reckon(o.D, known[0], known[0])
	case o.Code == api.IrDo && o.B != o.C && len(known) == 2:
		v, fault = value.Reckon(o.D, known[0], known[1])
	case o.Code == api.IrTurn && len(known) == 1:
		v, fault = value.Turn(o.D, known[0])
	case o.Code == api.IrConv && len(known) == 1 && o.D >= 0 && o.D < int(api.NumKind):
		v, fault = value.Convert(api.Kind(o.D), known[0])
	}
	return v, fault == 0
}

func modelThreads(f api.Flat) api.Flat {
	ops := append([]api.Op{}, f.Ops...)
	for at, o := range f.Ops {
		if !leads(o) || o.B == at {
			continue
		}
		come := map[int]bool{}
		to := o.B
		for f.Ops[to].Code == api.IrJump && !come[to] {
			come[to] = true
			to = f.Ops[to].B
		}
		if !come[to] {
			ops[at].B = to
		}
	}
	f.Ops = ops
	return f
}

func modelDead(f api.Flat) api.Flat {
	come := map[int]bool{}
	var walk func(at int)
	walk = func(at int) {
		if !come[at] {
			come[at] = true
			for _, next := range ir.Next(f.Ops[at], at) {
				walk(next)
			}
		}
	}
	walk(0)
	return drop(f, func(at int) bool { return !come[at] })
}

func modelIdle(f api.Flat) api.Flat {
	return drop(f, func(at int) bool { return leads(f.Ops[at]) && f.Ops[at].B == at+1 })
}

func modelUnread(f api.Flat) api.Flat {
	read := map[int]bool{}
	for _, o := range f.Ops {
		for _, reg := range ir.Uses(o) {
			read[reg] = true
		}
	}
	return drop(f, func(at int) bool {
		switch o := f.Ops[at]; o.Code {
		case api.IrConst, api.IrMove, api.IrRef:
			return !read[o.A]
		case api.IrLoad:
			return !read[o.A] && (o.B == api.AreaThis || o.B == api.AreaGlobal)
		}
		return false
	})
}

func modelEmpty(f api.Flat) api.Flat {
	var loops []api.Loop
	for _, l := range f.Loops {
		if l.Head != l.End {
			loops = append(loops, l)
		}
	}
	f.Loops = loops
	return f
}

// modelFlat is what Flat must answer of what may be.
func modelFlat(f api.Flat) api.Flat {
	for {
		g := modelEmpty(modelUnread(modelIdle(modelDead(modelThreads(modelKnown(f))))))
		if same(f, g) {
			return g
		}
		f = g
	}
}
