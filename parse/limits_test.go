package parse_test

// Tests of P4.1: trees of just as much, and nested just as deep, as there may be, and of one more.

import (
	"reflect"
	"strings"
	"testing"

	"cantilever/api"
	"cantilever/ast"
	"cantilever/parse"
)

// bush is the text of an expression of n nodes that is not deep.
func bush(n int) string {
	switch {
	case n == 1:
		return "1"
	case n%2 == 0:
		return "!(" + bush(n-1) + ")"
	}
	left := (n - 1) / 2
	return "(" + bush(left) + ")+(" + bush(n-1-left) + ")"
}

func wantSized(t *testing.T, tree any, size, deep int) {
	t.Helper()
	if s, d := sized(reflect.ValueOf(tree)); s != size || deep > 0 && d != deep {
		t.Errorf("%d nodes, %d deep, not %d, %d", s, d, size, deep)
	}
}

// wantFits tells that the expression is read if its size and depth are no greater than may be, else that it is too great.
func wantFits(t *testing.T, s string, size, deep int) {
	t.Helper()
	e, fault := parse.Expr(s)
	switch {
	case size > maxSize || deep > maxNest:
		wantExprFault(t, s, 3, 0)
	case fault != (api.Fault{}):
		t.Errorf("Expr of %.100q: %v", s, fault)
	default:
		wantSized(t, e, size, deep)
	}
}

func wantStmtsFit(t *testing.T, s string, size, deep int) {
	t.Helper()
	l, fault := parse.Stmts(s)
	p, whole := parse.Parse("shared x; thread {" + s + "}")
	switch {
	case size > maxSize || deep > maxNest:
		wantStmtsFault(t, s, 3, 0)
		wantFault(t, "shared x; thread {"+s+"}", 3, 0)
		wantFault(t, " // far in\n thread { } thread {"+s+"} plain y;", 3, 0)
	case fault != (api.Fault{}) || whole != (api.Fault{}):
		t.Errorf("Stmts, Parse of %.100q: %v, %v", s, fault, whole)
	default:
		wantSized(t, l, size, deep)
		wantSized(t, p, size, deep)
	}
}

func TestExprsOfJustTheSize(t *testing.T) {
	for _, n := range []int{1, 2, 3, maxSize - 1, maxSize, maxSize + 1, maxSize + 2, 5000} {
		wantFits(t, bush(n), n, 0)
		wantFits(t, nested(100, openings()[:1], bush(n)), n, 0)
	}
}

// A statement is one more than its expressions.
func TestStmtsOfJustTheSize(t *testing.T) {
	for _, n := range []int{2, 3, maxSize - 1, maxSize, maxSize + 1, maxSize + 2, 5000} {
		wantStmtsFit(t, "r="+bush(n-1)+";", n, 0)
		wantStmtsFit(t, "assert("+bush(n-1)+");", n, 0)
		wantStmtsFit(t, strings.Repeat("fence(sc);", n), n, 1)
		wantStmtsFit(t, strings.Repeat("fence(sc);", n-2)+"while(a){}", n, 2)
		if n > 6 {
			wantStmtsFit(t, strings.Repeat("fence(sc);", n-6)+"if(a){x=1;}else{fence(ar);fence(ar);}", n, 3)
		}
	}
}

// The size is that of all threads together; locations, and threads by themselves, are none of it.
func TestProgramsOfJustTheSize(t *testing.T) {
	half := "thread{" + strings.Repeat("fence(sc);", maxSize/2) + "}"
	decls := "shared x" + strings.Repeat(",x=1", 5000) + ";"
	for _, s := range []string{half + half, decls + half + half, half + strings.Repeat("thread{}", 500) + half + decls} {
		p, fault := parse.Parse(s)
		if fault != (api.Fault{}) {
			t.Errorf("%.100q: %v", s, fault)
		}
		wantSized(t, p, maxSize, 1)
		wantFault(t, s+"thread{fence(sc);}", 3, 0)
		wantFault(t, "thread{fence(sc);}"+s, 3, 0)
		wantFault(t, s+"thread{fence(sc);", 5, len(s)+17)
	}
	p, fault := parse.Parse(decls)
	if fault != (api.Fault{}) || len(p.Decls) != 5001 {
		t.Error("locations", len(p.Decls), fault)
	}
}

func TestExprsOfJustTheDepth(t *testing.T) {
	for _, n := range []int{1, 2, maxNest - 1, maxNest, maxNest + 1, maxNest + 2, 100} {
		wantFits(t, strings.Repeat("-", n-1)+"a", n, n)
		wantFits(t, strings.Repeat("!(", n-1)+"a"+strings.Repeat(")", n-1), n, n)
		wantFits(t, "a"+strings.Repeat("+a", n-1), 2*n-1, n)
		wantFits(t, strings.Repeat("1*(", n-1)+"a"+strings.Repeat(")", n-1), 2*n-1, n)
		wantFits(t, "b||"+strings.Repeat("-", n)+"a", n+3, n+2)
	}
	wantExprFault(t, "a"+strings.Repeat("+a", maxText/2-1), 3, 0)
}

func TestStmtsOfJustTheDepth(t *testing.T) {
	for _, n := range []int{2, 3, maxNest - 1, maxNest, maxNest + 1, maxNest + 2, 100} {
		ends := strings.Repeat("}", n-1)
		wantStmtsFit(t, "r="+strings.Repeat("-", n-2)+"a;", n, n)
		wantStmtsFit(t, "store(x,"+strings.Repeat("!", n-2)+"a,rel);", n, n)
		wantStmtsFit(t, strings.Repeat("if(a){", n-1)+"fence(sc);"+ends, 2*n-1, n)
		wantStmtsFit(t, strings.Repeat("while(a){", n-1)+"fence(sc);"+ends, 2*n-1, n)
		wantStmtsFit(t, strings.Repeat("if(a){}else{", n-1)+"fence(sc);"+ends, 2*n-1, n)
		wantStmtsFit(t, strings.Repeat("if(a){}else ", n-1)+"if(a){fence(sc);}", 2*n+1, n+1)
		wantStmtsFit(t, strings.Repeat("if(a){", n-2)+"x=1;"+ends[1:], 2*n-2, n)
	}
}

// What is told may be.
func TestAnswersMayBe(t *testing.T) {
	for _, s := range samples() {
		p, fault := parse.Parse(s)
		if err := ast.Check(p); fault != (api.Fault{}) || err != api.OK {
			t.Errorf("%q: %v, %d", s, fault, err)
		}
	}
	good := 0
	for i, p := range programs() {
		l := texts(programText(p))
		m := newMaker(uint64(i))
		if len(l) > 0 {
			l[m.Below(len(l))] = things()[m.Below(len(things()))]
		}
		s := strings.Join(l, " ")
		got, fault := parse.Parse(s)
		if ast.Check(got) != api.OK {
			t.Errorf("%q: Check of its program %d", s, ast.Check(got))
		}
		if fault == (api.Fault{}) {
			good++
		}
		for _, thread := range got.Threads {
			for _, stmt := range thread {
				in, _ := parse.Stmts(stmtText(stmt))
				if len(in) != 1 || ast.Check(api.Program{Threads: [][]api.Stmt{in}}) != api.OK {
					t.Errorf("%q: %s", stmtText(stmt), brief(in))
				}
				for _, e := range stmt.Exprs {
					alone, _ := parse.Expr(exprText(e))
					if ast.CheckExpr(alone) != api.OK {
						t.Errorf("%q: %s", exprText(e), brief(alone))
					}
				}
			}
		}
	}
	if good < 50 {
		t.Error("the texts themselves", good)
	}
}
