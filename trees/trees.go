// Package trees makes programs' trees, and texts to read them from, for the tests of the layers. No layer stands on it.
package trees

import "cantilever/api"

// Num is a number, as an expression.
func Num(n int64) api.Expr { return api.Expr{Op: api.OpNum, Num: n} }

// Reg is a register, as an expression.
func Reg(name string) api.Expr { return api.Expr{Op: api.OpReg, Name: name} }

// Op is an expression of others.
func Op(op int, kids ...api.Expr) api.Expr { return api.Expr{Op: op, Kids: kids} }

// Set is name = e; .
func Set(name string, e api.Expr) api.Stmt {
	return api.Stmt{Kind: api.StSet, Name: name, Exprs: []api.Expr{e}}
}

// Access is a statement of a Kind that has a location, with all that this Kind has.
func Access(kind int, name, loc string, order int, l ...api.Expr) api.Stmt {
	return api.Stmt{Kind: kind, Name: name, Loc: loc, Order: order, Exprs: l}
}

// Fence is fence(order); .
func Fence(order int) api.Stmt { return api.Stmt{Kind: api.StFence, Order: order} }

// Assume is assume(e); .
func Assume(e api.Expr) api.Stmt { return api.Stmt{Kind: api.StAssume, Exprs: []api.Expr{e}} }

// Assert is assert(e); .
func Assert(e api.Expr) api.Stmt { return api.Stmt{Kind: api.StAssert, Exprs: []api.Expr{e}} }

// If is an if with its two blocks.
func If(e api.Expr, then, otherwise []api.Stmt) api.Stmt {
	return api.Stmt{Kind: api.StIf, Exprs: []api.Expr{e}, Then: then, Else: otherwise}
}

// While is a while with its block.
func While(e api.Expr, then ...api.Stmt) api.Stmt {
	return api.Stmt{Kind: api.StWhile, Exprs: []api.Expr{e}, Then: then}
}

// Thread is a program of one thread.
func Thread(l ...api.Stmt) api.Program { return api.Program{Threads: [][]api.Stmt{l}} }
