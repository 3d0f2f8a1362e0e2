package alloc

import (
	"slices"

	"relay/api"
	"relay/ir"
)

// mostVirtual is how many registers a code has at most that is handed in.
const mostVirtual = 1 << 16

// canBe tells whether a code is one whose registers can be dealt out.
func canBe(f api.Flat) bool {
	n := len(f.Ops)
	if n == 0 || n > api.MaxCode || f.Regs > mostVirtual || f.Slots != 0 || !isEnd(f.Ops[n-1].Code) {
		return false
	}
	isOdd := func(o api.Op) bool { return !canStand(o, n, f.Regs) }
	isTurned := func(l api.Loop) bool { return l.Head < 0 || l.Head > l.End || l.End > n }
	return !slices.ContainsFunc(f.Ops, isOdd) && !slices.ContainsFunc(f.Loops, isTurned)
}

// isEnd tells whether nothing goes on right behind an instruction.
func isEnd(code int) bool {
	return code == api.IrJump || code == api.IrReturn || code == api.IrFault
}

func isJump(code int) bool { return code == api.IrJump || code == api.IrUnless }

// canStand tells whether an instruction can stand among n ones, over so many registers.
func canStand(o api.Op, n, regs int) bool {
	if o.Code < api.IrConst || o.Code > api.IrReturn {
		return false
	}
	isAstray := func(reg int) bool { return reg < 0 || reg >= regs }
	// That Gives tells -1 of an instruction which sets nothing does not say that it sets the register -1.
	if slices.ContainsFunc(ir.Uses(o), isAstray) || sets(o) && isAstray(o.A) {
		return false
	}
	return !isJump(o.Code) || o.B >= 0 && o.B < n
}

// sets tells whether an instruction sets a register, which is its A, whatever that is.
func sets(o api.Op) bool {
	o.A = 0
	return ir.Gives(o) == o.A
}
