package trees

import (
	"strconv"
	"strings"

	"cantilever/api"
)

// Keywords are those of a program's text.
func Keywords() []string {
	return []string{"shared", "plain", "thread", "if", "else", "while", "load", "store", "cas", "add",
		"swap", "fence", "assume", "assert", "na", "rlx", "acq", "rel", "ar", "sc"}
}

// Orders are the keywords of orders by their numbers.
func Orders() []string { return []string{"", "na", "rlx", "acq", "rel", "ar", "sc"} }

// A Between is a sign between two, its Op, and how strong it is.
type Between struct {
	Sign         string
	Op, Strength int
}

// Betweens are all of them, by their Ops.
func Betweens() []Between {
	return []Between{{"||", 5, 1}, {"&&", 6, 2}, {"==", 7, 3}, {"!=", 8, 3}, {"<", 9, 4}, {"<=", 10, 4},
		{"|", 11, 5}, {"^", 12, 6}, {"&", 13, 7}, {"+", 14, 8}, {"-", 15, 8}, {"*", 16, 9}}
}

// An Ahead is a sign ahead of one, and its Op.
type Ahead struct {
	Sign string
	Op   int
}

// Aheads are both of them, by their Ops.
func Aheads() []Ahead { return []Ahead{{"-", 3}, {"!", 4}} }

// The texts have a blank between all tokens, and brackets around all that is in another expression, so that no sign's
// strength counts.

// ExprText is such a text of an expression.
func ExprText(e api.Expr) string {
	inner := func(e api.Expr) string {
		if e.Op <= api.OpReg {
			return ExprText(e)
		}
		return "( " + ExprText(e) + " )"
	}
	switch {
	case e.Op == api.OpNum:
		return strconv.FormatInt(e.Num, 10)
	case e.Op == api.OpReg:
		return e.Name
	case e.Op <= api.OpNot:
		return Aheads()[e.Op-api.OpNeg].Sign + " " + inner(e.Kids[0])
	}
	return inner(e.Kids[0]) + " " + Betweens()[e.Op-api.OpOr].Sign + " " + inner(e.Kids[1])
}

// StmtText is such a text of a statement.
func StmtText(s api.Stmt) string {
	words := [...]string{"", "", "load", "store", "cas", "add", "swap", "fence", "assume", "assert", "if", "while"}
	args := ""
	for _, e := range s.Exprs {
		args += ExprText(e) + " , "
	}
	located := words[s.Kind] + " ( " + s.Loc + " , " + args + Orders()[s.Order] + " ) ;"
	switch s.Kind {
	case api.StSet:
		return s.Name + " = " + ExprText(s.Exprs[0]) + " ;"
	case api.StStore:
		return located
	case api.StFence:
		return "fence ( " + Orders()[s.Order] + " ) ;"
	case api.StAssume, api.StAssert:
		return words[s.Kind] + " ( " + ExprText(s.Exprs[0]) + " ) ;"
	case api.StIf, api.StWhile:
		text := words[s.Kind] + " ( " + ExprText(s.Exprs[0]) + " ) { " + StmtsText(s.Then) + " }"
		if len(s.Else) > 0 {
			text += " else { " + StmtsText(s.Else) + " }"
		}
		return text
	}
	return s.Name + " = " + located
}

// StmtsText is such a text of statements.
func StmtsText(l []api.Stmt) string {
	var texts []string
	for _, s := range l {
		texts = append(texts, StmtText(s))
	}
	return strings.Join(texts, " ")
}

// ProgramText is such a text of a program.
func ProgramText(p api.Program) string {
	var texts []string
	for _, d := range p.Decls {
		kind := "shared"
		if d.Plain {
			kind = "plain"
		}
		texts = append(texts, kind+" "+d.Name+" = "+strconv.FormatInt(d.Value, 10)+" ;")
	}
	for _, l := range p.Threads {
		texts = append(texts, "thread { "+StmtsText(l)+" }")
	}
	return strings.Join(texts, " ")
}
