package ilcore

import (
	"slices"

	"relay/api"
	"relay/trees"
)

// operation is the operation that a word names; 0, if it names none.
func operation(word string) int {
	l := [...]string{
		api.OpAdd: "ADD", api.OpSub: "SUB", api.OpMul: "MUL", api.OpDiv: "DIV", api.OpMod: "MOD",
		api.OpAnd: "AND", api.OpOr: "OR", api.OpXor: "XOR",
		api.OpEq: "EQ", api.OpNe: "NE", api.OpLt: "LT", api.OpLe: "LE", api.OpGt: "GT", api.OpGe: "GE",
	}
	return max(0, slices.Index(l[:], word))
}

// operand is the operand or place of an instruction, in new memory; one made by hand may lack it.
func operand(in api.IlInstr) api.Expr {
	if len(in.Args) == 0 {
		return api.Expr{}
	}
	return trees.Copy(in.Args[0])
}

// turned is an expression, or NOT of it, if that is asked for.
func turned(not bool, at int, e api.Expr) api.Expr {
	if not {
		return trees.Not(at, e)
	}
	return e
}

func (a *list) load(in api.IlInstr) { a.take(turned(in.Not, in.At, operand(in))) }

func (a *list) reckon(in api.IlInstr) {
	right := turned(in.Not, in.At, operand(in))
	a.take(trees.Both(operation(in.Op), in.At, a.acc, right))
}

func (a *list) open(in api.IlInstr) {
	a.stack = append(a.stack, bracket{at: in.At, op: operation(in.Op), not: in.Not, ahead: a.acc})
	a.empty()
	if len(in.Args) > 0 {
		a.take(operand(in))
	}
}

func (a *list) shut(in api.IlInstr) {
	b := a.top()
	a.stack = a.stack[:len(a.stack)-1]
	a.take(trees.Both(b.op, in.At, b.ahead, turned(b.not, in.At, a.acc)))
}

func (a *list) not(in api.IlInstr) { a.take(trees.Not(in.At, a.acc)) }

func (a *list) function(in api.IlInstr) {
	kids := append([]api.Expr{a.acc}, trees.Copies(in.Args)...)
	a.take(api.Expr{Op: api.ExCall, At: in.At, Name: in.Name, Kids: kids, Names: make([]string, len(kids))})
}

func (a *list) store(in api.IlInstr) {
	a.put(trees.Set(in.At, operand(in), turned(in.Not, in.At, a.acc)))
	a.take(turned(in.Not, in.At, operand(in)))
}

// keep puts the accumulator into the hidden variable, and answers that, which is the accumulator then: so it is evaluated once, ahead of what hangs on it.
func (a *list) keep(at int) api.Expr {
	name := a.kept()
	a.put(trees.Set(at, trees.Name(at, name), a.acc))
	a.take(trees.Name(at, name))
	return trees.Name(at, name)
}

// condition is the accumulator, kept, as a conditional instruction asks for it.
func (a *list) condition(in api.IlInstr) api.Expr { return turned(in.Not, in.At, a.keep(in.At)) }

func (a *list) latch(in api.IlInstr) {
	is := a.keep(in.At)
	a.put(trees.If(in.At, is, trees.Set(in.At, operand(in), trees.Truth(in.At, in.Op == "S"))))
}

func (a *list) jump(in api.IlInstr) {
	s := api.Stmt{Op: api.StJump, At: in.At, Name: in.Name}
	if in.Cond {
		s.Exprs = []api.Expr{a.condition(in)}
	} else {
		a.empty()
	}
	a.put(s)
}

func (a *list) call(in api.IlInstr) {
	a.perhaps(in, api.Stmt{
		Op: api.StCall, At: in.At, Name: in.Name,
		Exprs: trees.Copies(in.Args), Names: slices.Clone(in.Names),
		Outs: trees.Copies(in.Outs), OutNames: slices.Clone(in.OutNames),
	})
}

func (a *list) leave(in api.IlInstr) { a.perhaps(in, api.Stmt{Op: api.StReturn, At: in.At}) }

// perhaps puts a statement: one that is done if the accumulator is true, where the instruction asks for that.
func (a *list) perhaps(in api.IlInstr, s api.Stmt) {
	if in.Cond {
		s = trees.If(in.At, a.condition(in), s)
	} else {
		a.empty()
	}
	a.put(s)
}
