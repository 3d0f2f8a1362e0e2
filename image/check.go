package image

import (
	"relay/api"
	"relay/lex"
)

// flaw is why an image may not be: of which cell, code or task, and of an instruction at which place. Its why is api.OK, if there is none.
type flaw struct {
	number, place int
	why           api.Errno
}

// span is the numbers from least to most; of the zero span 0 alone.
type span struct{ least, most int }

func (s span) has(n int) bool { return n >= s.least && n <= s.most }

// below is the numbers from 0 up to n, n not among them.
func below(n int) span { return span{0, n - 1} }

// headFlaw is what is wrong with the image's name and with how much it has.
func headFlaw(m api.Image) flaw {
	switch {
	case !lex.IsName(m.Name):
		return flaw{why: api.ErrName}
	case len(m.Cells) > api.MaxCells:
		return flaw{number: api.MaxCells, why: api.ErrLong}
	case len(m.Codes) > api.MaxPous:
		return flaw{number: api.MaxPous, why: api.ErrLong}
	case len(m.Jobs) > api.MaxTasks:
		return flaw{number: api.MaxTasks, why: api.ErrLong}
	}
	return flaw{}
}

// codeFlaw is the first thing that is wrong with the codes.
func codeFlaw(m api.Image) flaw {
	ops := 0
	for i, f := range m.Codes {
		ops += len(f.Ops)
		switch {
		case !lex.IsName(f.Name):
			return flaw{number: i, why: api.ErrName}
		case !mayStand(f, len(m.Cells)) || !mayEnd(f) || !mayLoop(f):
			return flaw{number: i, why: api.ErrCode}
		case ops > api.MaxCode || len(f.Loops) > api.MaxCode:
			return flaw{number: i, why: api.ErrLong}
		}
		for at, o := range f.Ops {
			if !mayDo(o, f, len(m.Codes)) {
				return flaw{number: i, place: at, why: api.ErrCode}
			}
		}
	}
	return flaw{}
}

// mayStand tells whether a code's numbers may be, over so many cells.
func mayStand(f api.Flat, cells int) bool {
	if !(span{api.PouFunction, api.PouProgram}).has(f.What) || !(span{0, api.MaxCells}).has(f.Cells) {
		return false
	}
	isFrame := f.What == api.PouFunction && fits(f.Base, f.Cells, cells)
	return (f.Base == -1 || isFrame) && (span{0, api.MaxRegs}).has(f.Regs) && (span{0, api.MaxSlots}).has(f.Slots)
}

// fits tells whether so many cells from a base on are all there. (The sum of the two may be more than an int has.)
func fits(base, size, cells int) bool { return base >= 0 && base <= cells-size }

// mayEnd tells whether a run can't leave a code behind its last instruction.
func mayEnd(f api.Flat) bool {
	if len(f.Ops) == 0 {
		return false
	}
	switch f.Ops[len(f.Ops)-1].Code {
	case api.IrJump, api.IrFault, api.IrReturn:
		return true
	}
	return false
}

func mayLoop(f api.Flat) bool {
	for _, l := range f.Loops {
		if l.Head < 0 || l.Head > l.End || l.End > len(f.Ops) || !(span{0, api.MaxTimes}).has(l.Times) {
			return false
		}
	}
	return true
}

// mostPriority is a task's greatest priority number.
const mostPriority = 65535

// jobFlaw is the first thing that is wrong with the tasks.
func jobFlaw(m api.Image) flaw {
	names := map[string]struct{}{}
	for i, j := range m.Jobs {
		if _, is := names[j.Name]; is || !lex.IsName(j.Name) {
			return flaw{number: i, why: api.ErrName}
		}
		names[j.Name] = struct{}{}
		if !mayTrigger(j, m.Cells) || !mayRun(j, m) {
			return flaw{number: i, why: api.ErrJob}
		}
	}
	return flaw{}
}

// mayTrigger tells whether a task's own numbers may be.
func mayTrigger(j api.Job, cells []api.Cell) bool {
	if j.Single != -1 && (!below(len(cells)).has(j.Single) || cells[j.Single].Kind != api.KBool) {
		return false
	}
	return j.Interval >= 0 && (span{0, mostPriority}).has(j.Priority) && (span{0, api.MaxBound}).has(j.Bound)
}

// mayRun tells whether a task's programs are there, and their cells.
func mayRun(j api.Job, m api.Image) bool {
	if len(j.Codes) != len(j.Bases) || len(j.Codes) > api.MaxRuns {
		return false
	}
	for i, n := range j.Codes {
		if !below(len(m.Codes)).has(n) {
			return false
		}
		if f := m.Codes[n]; f.What != api.PouProgram || !fits(j.Bases[i], f.Cells, len(m.Cells)) {
			return false
		}
	}
	return true
}
