package parse_test

import (
	"fmt"
	"reflect"
	"slices"
	"testing"

	"cantilever/api"
	"cantilever/ast"
	"cantilever/lex"
	"cantilever/parse"
	"cantilever/trees"
)

// The document's limits and lists, told once more for the tests.

const (
	maxText = 1 << 16
	maxOpen = 200
	maxSize = 2000
	maxNest = 32
)

func signs() []string {
	return []string{"||", "&&", "==", "!=", "<=", "<", "+", "-", "*", "&", "|", "^", "!", "=", "(", ")", "{", "}", ",", ";"}
}

// things are the texts of all tokens, one word and one number for all of these.
func things() []string { return slices.Concat(keywords(), signs(), []string{"w", "7"}) }

// The trees of package trees, and their texts.

var (
	num, reg, op, set     = trees.Num, trees.Reg, trees.Op, trees.Set
	access, fence         = trees.Access, trees.Fence
	assume, assert        = trees.Assume, trees.Assert
	choice, loop, thread  = trees.If, trees.While, trees.Thread
	keywords, orders      = trees.Keywords, trees.Orders
	betweens, aheads      = trees.Betweens, trees.Aheads
	exprText, stmtText    = trees.ExprText, trees.StmtText
	programText, newMaker = trees.ProgramText, trees.NewMaker
)

// programs are many of any shape.
func programs() []api.Program { return trees.Programs(600) }

// sized tells how many expressions and statements stand in v, and how deep they are nested.
func sized(v reflect.Value) (size, deep int) {
	switch v.Kind() {
	case reflect.Struct:
		for i := range v.NumField() {
			s, d := sized(v.Field(i))
			size, deep = size+s, max(deep, d)
		}
		switch v.Interface().(type) {
		case api.Expr, api.Stmt:
			size, deep = size+1, deep+1
		}
	case reflect.Slice:
		for i := range v.Len() {
			s, d := sized(v.Index(i))
			size, deep = size+s, max(deep, d)
		}
	}
	return size, deep
}

func tooGreat(tree any) bool {
	size, deep := sized(reflect.ValueOf(tree))
	return size > maxSize || deep > maxNest
}

// samples are texts of programs in which each rule of the grammar stands with each of its parts.
func samples() []string {
	return []string{
		"shared x ; thread { r = load ( x , acq ) ; }",
		"plain d = 5 , e ; shared x , y = 2 , z = 0 ; plain f ;",
		"thread { r = 1 ; s = r ; store ( x , r + 1 , rel ) ; fence ( sc ) ; }",
		"thread { a = cas ( x , 0 , 1 , ar ) ; b = add ( x , - 2 , rlx ) ; c = swap ( x , ! a , na ) ; }",
		"thread { assume ( a == 0 || b <= 1 ) ; assert ( ( a ) ) ; }",
		"thread { if ( a ) { } if ( b ) { c = 1 ; } else { d = 2 ; } }",
		"thread { if ( a ) { } else if ( b ) { } else if ( c ) { x = 1 ; } else { } y = 2 ; }",
		"thread { while ( a & b ^ c | d != e ) { if ( a ) { while ( - - 1 < 2 * 3 ) { } } } }",
		"thread { } shared x ; thread { } thread { }",
		"",
	}
}

// brief is enough of a thing to tell which it is.
func brief(what any) string {
	s := fmt.Sprintf("%+v", what)
	return s[:min(len(s), 300)]
}

func sameStmts(a, b []api.Stmt) bool { return ast.Same(thread(a...), thread(b...)) }

func wantProgram(t *testing.T, s string, want api.Program) {
	t.Helper()
	if got, fault := parse.Parse(s); fault != (api.Fault{}) || !ast.Same(got, want) {
		t.Errorf("Parse of %.200q: %s, %v, not %s", s, brief(got), fault, brief(want))
	}
}

func wantExpr(t *testing.T, s string, want api.Expr) {
	t.Helper()
	if got, fault := parse.Expr(s); fault != (api.Fault{}) || !ast.SameExpr(got, want) {
		t.Errorf("Expr of %.200q: %s, %v, not %s", s, brief(got), fault, brief(want))
	}
}

func wantStmts(t *testing.T, s string, want ...api.Stmt) {
	t.Helper()
	if got, fault := parse.Stmts(s); fault != (api.Fault{}) || !sameStmts(got, want) {
		t.Errorf("Stmts of %.200q: %s, %v, not %s", s, brief(got), fault, brief(want))
	}
}

// What is told beside a fault is zero.

func wantFault(t *testing.T, s string, err api.Errno, at int) {
	t.Helper()
	got, fault := parse.Parse(s)
	if fault != (api.Fault{Err: err, At: at}) || len(got.Decls) != 0 || len(got.Threads) != 0 {
		t.Errorf("Parse of %.200q: %s, %v, not %d at %d", s, brief(got), fault, err, at)
	}
}

func wantExprFault(t *testing.T, s string, err api.Errno, at int) {
	t.Helper()
	got, fault := parse.Expr(s)
	if fault != (api.Fault{Err: err, At: at}) || got.Op != 0 || got.Num != 0 || got.Name != "" || len(got.Kids) != 0 {
		t.Errorf("Expr of %.200q: %s, %v, not %d at %d", s, brief(got), fault, err, at)
	}
}

func wantStmtsFault(t *testing.T, s string, err api.Errno, at int) {
	t.Helper()
	got, fault := parse.Stmts(s)
	if fault != (api.Fault{Err: err, At: at}) || len(got) != 0 {
		t.Errorf("Stmts of %.200q: %s, %v, not %d at %d", s, brief(got), fault, err, at)
	}
}

// texts are those of the tokens of s, without the end's; none of a text with bytes that are no token.
func texts(s string) []string {
	tokens, _ := lex.All(s)
	var l []string
	for _, token := range tokens {
		if token.Kind != api.TokEnd {
			l = append(l, token.Text)
		}
	}
	return l
}
