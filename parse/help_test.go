package parse_test

import (
	"fmt"
	"reflect"
	"slices"
	"strconv"
	"strings"
	"testing"

	"cantilever/api"
	"cantilever/ast"
	"cantilever/lex"
	"cantilever/parse"
)

// The document's limits and lists, told once more for the tests.

const (
	maxText = 1 << 16
	maxOpen = 200
	maxSize = 2000
	maxNest = 32
)

func keywords() []string {
	return []string{"shared", "plain", "thread", "if", "else", "while", "load", "store", "cas", "add",
		"swap", "fence", "assume", "assert", "na", "rlx", "acq", "rel", "ar", "sc"}
}

func signs() []string {
	return []string{"||", "&&", "==", "!=", "<=", "<", "+", "-", "*", "&", "|", "^", "!", "=", "(", ")", "{", "}", ",", ";"}
}

// things are the texts of all tokens, one word and one number for all of these.
func things() []string { return slices.Concat(keywords(), signs(), []string{"w", "7"}) }

// orders are the keywords of orders by their numbers.
func orders() []string { return []string{"", "na", "rlx", "acq", "rel", "ar", "sc"} }

// A between is a sign between two, its Op, and how strong it is.
type between struct {
	sign         string
	op, strength int
}

func betweens() []between {
	return []between{{"||", 5, 1}, {"&&", 6, 2}, {"==", 7, 3}, {"!=", 8, 3}, {"<", 9, 4}, {"<=", 10, 4},
		{"|", 11, 5}, {"^", 12, 6}, {"&", 13, 7}, {"+", 14, 8}, {"-", 15, 8}, {"*", 16, 9}}
}

// An ahead is a sign ahead of one, and its Op.
type ahead struct {
	sign string
	op   int
}

func aheads() []ahead { return []ahead{{"-", 3}, {"!", 4}} }

// Trees.

func num(n int64) api.Expr { return api.Expr{Op: 1, Num: n} }

func reg(name string) api.Expr { return api.Expr{Op: 2, Name: name} }

func op(o int, kids ...api.Expr) api.Expr { return api.Expr{Op: o, Kids: kids} }

func set(name string, e api.Expr) api.Stmt {
	return api.Stmt{Kind: 1, Name: name, Exprs: []api.Expr{e}}
}

func access(kind int, name, loc string, order int, l ...api.Expr) api.Stmt {
	return api.Stmt{Kind: kind, Name: name, Loc: loc, Order: order, Exprs: l}
}

func fence(order int) api.Stmt { return api.Stmt{Kind: 7, Order: order} }

func assume(e api.Expr) api.Stmt { return api.Stmt{Kind: 8, Exprs: []api.Expr{e}} }

func assert(e api.Expr) api.Stmt { return api.Stmt{Kind: 9, Exprs: []api.Expr{e}} }

func choice(e api.Expr, then, otherwise []api.Stmt) api.Stmt {
	return api.Stmt{Kind: 10, Exprs: []api.Expr{e}, Then: then, Else: otherwise}
}

func loop(e api.Expr, then ...api.Stmt) api.Stmt {
	return api.Stmt{Kind: 11, Exprs: []api.Expr{e}, Then: then}
}

func thread(l ...api.Stmt) api.Program { return api.Program{Threads: [][]api.Stmt{l}} }

// sized tells how many expressions and statements stand in v, and how deep they are nested.
func sized(v reflect.Value) (size, deep int) {
	switch v.Kind() {
	case reflect.Struct:
		for i := range v.NumField() {
			s, d := sized(v.Field(i))
			size, deep = size+s, max(deep, d)
		}
		switch v.Interface().(type) {
		case api.Expr, api.Stmt:
			size, deep = size+1, deep+1
		}
	case reflect.Slice:
		for i := range v.Len() {
			s, d := sized(v.Index(i))
			size, deep = size+s, max(deep, d)
		}
	}
	return size, deep
}

func tooGreat(tree any) bool {
	size, deep := sized(reflect.ValueOf(tree))
	return size > maxSize || deep > maxNest
}

// Trees of any shape that may be, made of a number, and what they may be read from.

// mix is a number that hangs on its seed alone, with bits that look like no rule.
func mix(seed uint64) uint64 {
	seed += 0x9e3779b97f4a7c15
	seed = (seed ^ seed>>30) * 0xbf58476d1ce4e5b9
	seed = (seed ^ seed>>27) * 0x94d049bb133111eb
	return seed ^ seed>>31
}

type maker struct{ seed uint64 }

func (m *maker) below(n int) int {
	m.seed++
	return int(mix(m.seed) % uint64(n))
}

func (m *maker) word() string {
	return []string{"r", "x", "r1", "Z_9", "iff", "a__", "acq1", "Load"}[m.below(8)]
}

func (m *maker) number() int64 { return []int64{0, 1, 2, 10, 42, 1 << 40, 1<<63 - 1}[m.below(7)] }

func (m *maker) order() int { return 1 + m.below(6) }

func (m *maker) expr(room int) api.Expr {
	k := m.below(20)
	switch {
	case room < 2 || k < 4:
		if m.below(2) == 0 {
			return num(m.number())
		}
		return reg(m.word())
	case k < 8:
		return op(3+k%2, m.expr(room-1))
	}
	return op(5+m.below(12), m.expr(room-1), m.expr(room-1))
}

func (m *maker) stmt(room int) api.Stmt {
	e := m.expr(4)
	switch k := 1 + m.below(11); {
	case k == 1:
		return set(m.word(), e)
	case k == 2:
		return access(k, m.word(), m.word(), m.order())
	case k == 3:
		return access(k, "", m.word(), m.order(), e)
	case k == 4:
		return access(k, m.word(), m.word(), m.order(), e, m.expr(3))
	case k <= 6:
		return access(k, m.word(), m.word(), m.order(), e)
	case k == 8:
		return assume(e)
	case k == 9:
		return assert(e)
	case k == 10 && room > 1:
		return choice(e, m.stmts(room-1), m.stmts(room-1))
	case k == 11 && room > 1:
		return loop(e, m.stmts(room-1)...)
	}
	return fence(m.order())
}

func (m *maker) stmts(room int) []api.Stmt {
	var l []api.Stmt
	for range m.below(4) {
		l = append(l, m.stmt(room))
	}
	return l
}

func (m *maker) program() api.Program {
	var p api.Program
	for range m.below(4) {
		p.Decls = append(p.Decls, api.Decl{Name: m.word(), Plain: m.below(2) == 0, Value: m.number()})
	}
	for range m.below(4) {
		p.Threads = append(p.Threads, m.stmts(1+m.below(4)))
	}
	return p
}

// programs are many of any shape.
func programs() []api.Program {
	var l []api.Program
	for seed := range uint64(600) {
		m := maker{mix(seed) << 12}
		l = append(l, m.program())
	}
	return l
}

// exprText tells an expression with brackets around all that is in another one, so that no sign's strength counts.
func exprText(e api.Expr) string {
	inner := func(e api.Expr) string {
		if e.Op <= 2 {
			return exprText(e)
		}
		return "( " + exprText(e) + " )"
	}
	switch {
	case e.Op == 1:
		return strconv.FormatInt(e.Num, 10)
	case e.Op == 2:
		return e.Name
	case e.Op <= 4:
		return aheads()[e.Op-3].sign + " " + inner(e.Kids[0])
	}
	return inner(e.Kids[0]) + " " + betweens()[e.Op-5].sign + " " + inner(e.Kids[1])
}

// stmtText tells a statement, with a blank between all tokens.
func stmtText(s api.Stmt) string {
	var args strings.Builder
	args.WriteString(s.Loc + " , ")
	for _, e := range s.Exprs {
		args.WriteString(exprText(e) + " , ")
	}
	args.WriteString(orders()[s.Order] + " ) ;")
	word := []string{"", "", "load", "store", "cas", "add", "swap", "fence", "assume", "assert", "if", "while"}[s.Kind]
	switch s.Kind {
	case 1:
		return s.Name + " = " + exprText(s.Exprs[0]) + " ;"
	case 2, 4, 5, 6:
		return s.Name + " = " + word + " ( " + args.String()
	case 3:
		return word + " ( " + args.String()
	case 7:
		return word + " ( " + orders()[s.Order] + " ) ;"
	case 8, 9:
		return word + " ( " + exprText(s.Exprs[0]) + " ) ;"
	}
	text := word + " ( " + exprText(s.Exprs[0]) + " ) { " + stmtsText(s.Then) + " }"
	if len(s.Else) > 0 {
		text += " else { " + stmtsText(s.Else) + " }"
	}
	return text
}

func stmtsText(l []api.Stmt) string {
	var texts []string
	for _, s := range l {
		texts = append(texts, stmtText(s))
	}
	return strings.Join(texts, " ")
}

func programText(p api.Program) string {
	var texts []string
	for _, d := range p.Decls {
		kind := "shared"
		if d.Plain {
			kind = "plain"
		}
		texts = append(texts, fmt.Sprintf("%s %s = %d ;", kind, d.Name, d.Value))
	}
	for _, l := range p.Threads {
		texts = append(texts, "thread { "+stmtsText(l)+" }")
	}
	return strings.Join(texts, " ")
}

// samples are texts of programs in which each rule of the grammar stands with each of its parts.
func samples() []string {
	return []string{
		"shared x ; thread { r = load ( x , acq ) ; }",
		"plain d = 5 , e ; shared x , y = 2 , z = 0 ; plain f ;",
		"thread { r = 1 ; s = r ; store ( x , r + 1 , rel ) ; fence ( sc ) ; }",
		"thread { a = cas ( x , 0 , 1 , ar ) ; b = add ( x , - 2 , rlx ) ; c = swap ( x , ! a , na ) ; }",
		"thread { assume ( a == 0 || b <= 1 ) ; assert ( ( a ) ) ; }",
		"thread { if ( a ) { } if ( b ) { c = 1 ; } else { d = 2 ; } }",
		"thread { if ( a ) { } else if ( b ) { } else if ( c ) { x = 1 ; } else { } y = 2 ; }",
		"thread { while ( a & b ^ c | d != e ) { if ( a ) { while ( - - 1 < 2 * 3 ) { } } } }",
		"thread { } shared x ; thread { } thread { }",
		"",
	}
}

// brief is enough of a thing to tell which it is.
func brief(what any) string {
	s := fmt.Sprintf("%+v", what)
	return s[:min(len(s), 300)]
}

func sameStmts(a, b []api.Stmt) bool { return ast.Same(thread(a...), thread(b...)) }

func wantProgram(t *testing.T, s string, want api.Program) {
	t.Helper()
	if got, fault := parse.Parse(s); fault != (api.Fault{}) || !ast.Same(got, want) {
		t.Errorf("Parse of %.200q: %s, %v, not %s", s, brief(got), fault, brief(want))
	}
}

func wantExpr(t *testing.T, s string, want api.Expr) {
	t.Helper()
	if got, fault := parse.Expr(s); fault != (api.Fault{}) || !ast.SameExpr(got, want) {
		t.Errorf("Expr of %.200q: %s, %v, not %s", s, brief(got), fault, brief(want))
	}
}

func wantStmts(t *testing.T, s string, want ...api.Stmt) {
	t.Helper()
	if got, fault := parse.Stmts(s); fault != (api.Fault{}) || !sameStmts(got, want) {
		t.Errorf("Stmts of %.200q: %s, %v, not %s", s, brief(got), fault, brief(want))
	}
}

// What is told beside a fault is zero.

func wantFault(t *testing.T, s string, err api.Errno, at int) {
	t.Helper()
	got, fault := parse.Parse(s)
	if fault != (api.Fault{Err: err, At: at}) || len(got.Decls) != 0 || len(got.Threads) != 0 {
		t.Errorf("Parse of %.200q: %s, %v, not %d at %d", s, brief(got), fault, err, at)
	}
}

func wantExprFault(t *testing.T, s string, err api.Errno, at int) {
	t.Helper()
	got, fault := parse.Expr(s)
	if fault != (api.Fault{Err: err, At: at}) || got.Op != 0 || got.Num != 0 || got.Name != "" || len(got.Kids) != 0 {
		t.Errorf("Expr of %.200q: %s, %v, not %d at %d", s, brief(got), fault, err, at)
	}
}

func wantStmtsFault(t *testing.T, s string, err api.Errno, at int) {
	t.Helper()
	got, fault := parse.Stmts(s)
	if fault != (api.Fault{Err: err, At: at}) || len(got) != 0 {
		t.Errorf("Stmts of %.200q: %s, %v, not %d at %d", s, brief(got), fault, err, at)
	}
}

// texts are those of the tokens of s, without the end's; none of a text with bytes that are no token.
func texts(s string) []string {
	tokens, _ := lex.All(s)
	var l []string
	for _, token := range tokens {
		if token.Kind != api.TokEnd {
			l = append(l, token.Text)
		}
	}
	return l
}
