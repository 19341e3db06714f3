package show

import (
	"strconv"
	"strings"

	"cantilever/api"
)

var keywords = [...]string{
	api.StLoad:   "load",
	api.StStore:  "store",
	api.StCas:    "cas",
	api.StAdd:    "add",
	api.StSwap:   "swap",
	api.StFence:  "fence",
	api.StAssume: "assume",
	api.StAssert: "assert",
	api.StIf:     "if",
	api.StWhile:  "while",
}

// step is how much further in a block stands than what it stands in.
const step = 2

// A writer is a text on its way. What it is given may be: each Op and each Kind has what it must have, and nothing else.
type writer struct {
	strings.Builder
	indent int
}

func (w *writer) put(texts ...string) {
	for _, text := range texts {
		w.WriteString(text)
	}
}

func (w *writer) line(texts ...string) {
	w.put(strings.Repeat(" ", w.indent))
	w.put(texts...)
	w.put("\n")
}

func (w *writer) program(p api.Program) {
	for _, d := range p.Decls {
		w.decl(d)
	}
	for _, l := range p.Threads {
		w.line("thread {")
		w.block(l)
		w.line("}")
	}
}

func (w *writer) decl(d api.Decl) {
	keyword := "shared "
	if d.Plain {
		keyword = "plain "
	}
	w.line(keyword, d.Name, " = ", number(d.Value), ";")
}

// block writes the lines between a { and its } .
func (w *writer) block(l []api.Stmt) {
	w.indent += step
	for _, s := range l {
		w.stmt(s)
	}
	w.indent -= step
}

func (w *writer) stmt(s api.Stmt) {
	switch s.Kind {
	case api.StSet:
		w.line(s.Name, " = ", alone(s.Exprs[0]), ";")
	case api.StLoad, api.StCas, api.StAdd, api.StSwap:
		w.line(s.Name, " = ", call(s), ";")
	case api.StStore, api.StFence, api.StAssume, api.StAssert:
		w.line(call(s), ";")
	case api.StIf, api.StWhile:
		w.guarded(s)
	}
}

// guarded writes an expression and the blocks that hang on it.
func (w *writer) guarded(s api.Stmt) {
	w.line(keywords[s.Kind], " (", alone(s.Exprs[0]), ") {")
	w.block(s.Then)
	if len(s.Else) > 0 {
		w.line("} else {")
		w.block(s.Else)
	}
	w.line("}")
}

// call is a statement's keyword with, in brackets, those that it has of a location, expressions and an order.
func call(s api.Stmt) string {
	var l []string
	if s.Loc != "" {
		l = append(l, s.Loc)
	}
	for _, e := range s.Exprs {
		l = append(l, alone(e))
	}
	if s.Order != 0 {
		l = append(l, Order(s.Order))
	}
	return keywords[s.Kind] + "(" + strings.Join(l, ", ") + ")"
}

// alone is an expression's text.
func alone(e api.Expr) string {
	var w writer
	w.expr(e)
	return w.String()
}

func (w *writer) expr(e api.Expr) {
	own := level(e.Op)
	switch len(e.Kids) {
	case 0:
		w.put(operand(e))
	case 1:
		w.put(Sign(e.Op))
		w.kid(e.Kids[0], own)
	case 2:
		w.kid(e.Kids[0], own)
		w.put(" ", Sign(e.Op), " ")
		// All signs between two go to the left: without brackets one of the same level would be read the other way round.
		w.kid(e.Kids[1], own+1)
	}
}

// kid writes what is in an expression, in brackets if it is weaker than what may stand there without.
func (w *writer) kid(e api.Expr, weakest int) {
	if level(e.Op) >= weakest {
		w.expr(e)
		return
	}
	w.put("(")
	w.expr(e)
	w.put(")")
}

// operand is the text of a number or a register.
func operand(e api.Expr) string {
	if e.Op == api.OpReg {
		return e.Name
	}
	return number(e.Num)
}

func number(n int64) string { return strconv.FormatInt(n, 10) }

// level tells how strong an operator is: the weakest is 1, and the strongest are those that stand ahead of one, or have no sign at all.
func level(op int) int {
	switch op {
	case api.OpOr:
		return 1
	case api.OpAnd:
		return 2
	case api.OpEq, api.OpNe:
		return 3
	case api.OpLess, api.OpMost:
		return 4
	case api.OpBor:
		return 5
	case api.OpXor:
		return 6
	case api.OpBand:
		return 7
	case api.OpPlus, api.OpMinus:
		return 8
	case api.OpTimes:
		return 9
	}
	return 10
}
