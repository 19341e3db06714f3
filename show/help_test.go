package show_test

import (
	"fmt"
	"slices"
	"strings"
	"testing"

	"cantilever/api"
	"cantilever/ast"
	"cantilever/parse"
	"cantilever/show"
	"cantilever/trees"
)

// The document's limits, told once more for the tests.

const (
	maxText = 1 << 16
	maxSize = 2000
	maxNest = 32
)

// The trees of package trees.

var (
	num, reg, op, set    = trees.Num, trees.Reg, trees.Op, trees.Set
	access, fence        = trees.Access, trees.Fence
	assume, assert       = trees.Assume, trees.Assert
	choice, loop, thread = trees.If, trees.While, trees.Thread
	betweens, aheads     = trees.Betweens, trees.Aheads
)

func list(l ...api.Stmt) []api.Stmt { return l }

func text(lines ...string) string {
	var b strings.Builder
	for _, line := range lines {
		b.WriteString(line + "\n")
	}
	return b.String()
}

// What the calls are to answer, told another way: of a text with all brackets those are left out without which it is
// read as the same tree, and what is left is laid out token by token.

// needed are the tokens of a text, without each pair of brackets that same tells can go.
func needed(text string, same func(text string) bool) []string {
	l := strings.Fields(text)
	for i := 0; i < len(l); i++ {
		if l[i] != "(" {
			continue
		}
		end := closing(l, i)
		without := slices.Concat(l[:i], l[i+1:end], l[end+1:])
		if same(strings.Join(without, " ")) {
			l = without
			i--
		}
	}
	return l
}

// closing is the place of the bracket that ends the one at i.
func closing(l []string, i int) int {
	open := 0
	for {
		switch l[i] {
		case "(":
			open++
		case ")":
			open--
		}
		if open == 0 {
			return i
		}
		i++
	}
}

// laidOut is the text of tokens, each line with its end.
func laidOut(l []string) string {
	var b strings.Builder
	open := 0
	for i, token := range l {
		switch {
		case i == 0:
		case token == "}":
			open--
			b.WriteString("\n" + strings.Repeat("  ", open))
		case slices.Contains([]string{"{", "}", ";"}, l[i-1]) && token != "else":
			b.WriteString("\n" + strings.Repeat("  ", open))
		case blankBetween(l, i):
			b.WriteString(" ")
		}
		if token == "{" {
			open++
		}
		b.WriteString(token)
	}
	if len(l) > 0 {
		b.WriteString("\n")
	}
	return b.String()
}

// blankBetween tells whether a blank stands ahead of token i of those on one line.
func blankBetween(l []string, i int) bool {
	before, here := l[i-1], l[i]
	calls := []string{"load", "store", "cas", "add", "swap", "fence", "assume", "assert"}
	switch {
	case before == "(", here == ")", here == ",", here == ";":
		return false
	case here == "(" && slices.Contains(calls, before):
		return false
	case before == "!":
		return false
	case before == "-":
		return isOperand(l[:i-1])
	}
	return true
}

// isOperand tells whether what stands at the end of l can stand ahead of a sign between two.
func isOperand(l []string) bool {
	if len(l) == 0 {
		return false
	}
	last := l[len(l)-1]
	first := last[0] | 0x20
	return last == ")" || '0' <= first && first <= '9' || 'a' <= first && first <= 'z'
}

func plainExpr(e api.Expr) string {
	same := func(text string) bool {
		got, fault := parse.Expr(text)
		return fault == (api.Fault{}) && ast.SameExpr(got, e)
	}
	return strings.TrimSuffix(laidOut(needed(trees.ExprText(e), same)), "\n")
}

func plainStmt(s api.Stmt) string {
	same := func(text string) bool {
		got, fault := parse.Stmts(text)
		return fault == (api.Fault{}) && ast.Same(thread(got...), thread(s))
	}
	return laidOut(needed(trees.StmtText(s), same))
}

func plainProgram(p api.Program) string {
	same := func(text string) bool {
		got, fault := parse.Parse(text)
		return fault == (api.Fault{}) && ast.Same(got, p)
	}
	return laidOut(needed(trees.ProgramText(p), same))
}

// brief is enough of a thing to tell which it is.
func brief(what any) string {
	s := fmt.Sprintf("%+v", what)
	return s[:min(len(s), 300)]
}

// The calls are held against a text, or against an error, beside which there is none.

func want(t *testing.T, call string, of any, got string, err api.Errno, text string, wantErr api.Errno) {
	t.Helper()
	if got != text || err != wantErr {
		t.Errorf("%s of %s: %.2000q, %d, not %.2000q, %d", call, brief(of), got, err, text, wantErr)
	}
}

func wantProgram(t *testing.T, p api.Program, text string) {
	t.Helper()
	got, err := show.Program(p)
	want(t, "Program", p, got, err, text, 0)
}

func wantStmt(t *testing.T, s api.Stmt, text string) {
	t.Helper()
	got, err := show.Stmt(s)
	want(t, "Stmt", s, got, err, text, 0)
}

func wantExpr(t *testing.T, e api.Expr, text string) {
	t.Helper()
	got, err := show.Expr(e)
	want(t, "Expr", e, got, err, text, 0)
}

func wantError(t *testing.T, p api.Program, wantErr api.Errno) {
	t.Helper()
	got, err := show.Program(p)
	want(t, "Program", p, got, err, "", wantErr)
}

func wantStmtError(t *testing.T, s api.Stmt, wantErr api.Errno) {
	t.Helper()
	got, err := show.Stmt(s)
	want(t, "Stmt", s, got, err, "", wantErr)
}

func wantExprError(t *testing.T, e api.Expr, wantErr api.Errno) {
	t.Helper()
	got, err := show.Expr(e)
	want(t, "Expr", e, got, err, "", wantErr)
}
