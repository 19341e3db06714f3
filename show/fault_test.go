package show_test

// Tests of P5.1: which trees have no text, and what is told then.

import (
	"math"
	"reflect"
	"slices"
	"strings"
	"testing"

	"cantilever/api"
	"cantilever/ast"
	"cantilever/show"
	"cantilever/trees"
)

// chain is an expression with n in it, as deep as it is great.
func chain(n int) api.Expr {
	e := reg("a")
	for range n - 1 {
		e = op(api.OpNot, e)
	}
	return e
}

// bush is an expression with n in it that is not deep.
func bush(n int) api.Expr {
	switch {
	case n == 1:
		return num(1)
	case n%2 == 0:
		return op(api.OpNeg, bush(n-1))
	}
	left := (n - 1) / 2
	return op(api.OpMinus, bush(left), bush(n-1-left))
}

func fences(n int) []api.Stmt { return slices.Repeat(list(fence(6)), n) }

// nest is a fence in n - 1 statements.
func nest(n int, around func(in []api.Stmt) api.Stmt) api.Stmt {
	s := fence(6)
	for range n - 1 {
		s = around(list(s))
	}
	return s
}

func inThen(in []api.Stmt) api.Stmt { return choice(num(1), in, nil) }

func inElse(in []api.Stmt) api.Stmt { return choice(num(1), nil, in) }

func inWhile(in []api.Stmt) api.Stmt { return loop(num(1), in...) }

func arounds() []func([]api.Stmt) api.Stmt {
	return []func([]api.Stmt) api.Stmt{inThen, inElse, inWhile}
}

func TestTooGreat(t *testing.T) {
	wantExpr(t, bush(maxSize), plainText(bush(maxSize)))
	wantExprError(t, bush(maxSize+1), api.ErrLong)
	wantExprError(t, bush(50000), api.ErrLong)
	wantStmt(t, assert(bush(maxSize-1)), "assert("+plainText(bush(maxSize-1))+");\n")
	wantStmtError(t, assert(bush(maxSize)), api.ErrLong)
	for _, around := range arounds() {
		if got, err := show.Stmt(around(fences(maxSize - 2))); err != 0 || strings.Count(got, "\n  fence(sc);\n") == 0 {
			t.Errorf("%.100q, %d", got, err)
		}
		wantStmtError(t, around(fences(maxSize-1)), api.ErrLong)
		wantError(t, thread(around(fences(maxSize-1))), api.ErrLong)
	}
	wantProgram(t, thread(fences(maxSize)...), "thread {\n"+strings.Repeat("  fence(sc);\n", maxSize)+"}\n")
	wantError(t, thread(fences(maxSize+1)...), api.ErrLong)
	half := fences(maxSize / 2)
	wantProgram(t, api.Program{Threads: [][]api.Stmt{half, nil, half}},
		"thread {\n"+strings.Repeat("  fence(sc);\n", maxSize/2)+"}\nthread {\n}\nthread {\n"+strings.Repeat("  fence(sc);\n", maxSize/2)+"}\n")
	wantError(t, api.Program{Threads: [][]api.Stmt{half, list(fence(6)), half}}, api.ErrLong)
}

// plainText is an expression's text without a look at what is great: each - between two with brackets on its right.
func plainText(e api.Expr) string {
	switch e.Op {
	case api.OpNum:
		return "1"
	case api.OpNeg:
		return "-" + bracketed(e.Kids[0])
	}
	return plainText(e.Kids[0]) + " - " + bracketed(e.Kids[1])
}

func bracketed(e api.Expr) string {
	if e.Op == api.OpMinus {
		return "(" + plainText(e) + ")"
	}
	return plainText(e)
}

func TestNestedTooDeep(t *testing.T) {
	wantExpr(t, chain(maxNest), strings.Repeat("!", maxNest-1)+"a")
	wantExprError(t, chain(maxNest+1), api.ErrLong)
	wantExprError(t, chain(60000), api.ErrLong)
	inAll := chain(maxNest - 1)
	wantStmt(t, set("r", inAll), "r = "+strings.Repeat("!", maxNest-2)+"a;\n")
	wantStmtError(t, set("r", chain(maxNest)), api.ErrLong)
	wantError(t, thread(set("r", chain(maxNest))), api.ErrLong)
	for _, around := range arounds() {
		s := nest(maxNest, around)
		wantStmt(t, s, plainStmt(s))
		wantProgram(t, thread(s), plainProgram(thread(s)))
		deeper := nest(maxNest+1, around)
		wantStmtError(t, deeper, api.ErrLong)
		wantError(t, thread(deeper), api.ErrLong)
		wantError(t, api.Program{Threads: [][]api.Stmt{nil, {fence(6), deeper}}}, api.ErrLong)
	}
}

// Trees without an end are too great.
func TestListsThatStandInThemselves(t *testing.T) {
	kids := []api.Expr{{Op: api.OpNot}}
	kids[0].Kids = kids
	wantEndless(t, show.Expr, kids[0])
	for _, around := range arounds() {
		in := make([]api.Stmt, 1)
		in[0] = around(in)
		wantEndless(t, show.Stmt, in[0])
		wantEndless(t, show.Program, thread(in...))
	}
}

// wantEndless asks for ErrLong without telling what is asked of, which has no end.
func wantEndless[T any](t *testing.T, call func(T) (string, api.Errno), of T) {
	t.Helper()
	if got, err := call(of); got != "" || err != api.ErrLong {
		t.Errorf("%.100q, %d", got, err)
	}
}

// Of two errors ErrLong is told, wherever what may not be stands.
func TestLongAheadOfArg(t *testing.T) {
	wrong := num(-1)
	wantExprError(t, wrong, api.ErrArg)
	wantExprError(t, op(api.OpPlus, wrong, bush(maxSize-2)), api.ErrArg)
	wantExprError(t, op(api.OpPlus, wrong, bush(maxSize-1)), api.ErrLong)
	wantExprError(t, op(api.OpPlus, bush(maxSize-1), wrong), api.ErrLong)
	wantExprError(t, op(api.OpPlus, wrong, chain(maxNest-1)), api.ErrArg)
	wantExprError(t, op(api.OpPlus, wrong, chain(maxNest)), api.ErrLong)
	wantExprError(t, op(99, chain(maxNest)), api.ErrLong)
	wantStmtError(t, api.Stmt{}, api.ErrArg)
	wantStmtError(t, api.Stmt{Then: fences(maxSize - 1)}, api.ErrArg)
	wantStmtError(t, api.Stmt{Then: fences(maxSize)}, api.ErrLong)
	wantStmtError(t, api.Stmt{Else: list(nest(maxNest, inElse))}, api.ErrLong)
	wantError(t, thread(append(fences(maxSize), api.Stmt{})...), api.ErrLong)
	wantError(t, thread(append(fences(maxSize-1), api.Stmt{})...), api.ErrArg)
	p := thread(fences(maxSize)...)
	p.Decls = []api.Decl{{Name: "if"}}
	wantError(t, p, api.ErrArg)
	p.Threads = append(p.Threads, list(fence(6)))
	wantError(t, p, api.ErrLong)
}

func TestLocationsThatMayNotBe(t *testing.T) {
	for _, d := range []api.Decl{{}, {Name: "load"}, {Name: "1"}, {Name: "a b"}, {Name: "x", Value: -1}, {Name: "x", Plain: true, Value: math.MinInt64}, {Name: "", Value: 1}} {
		for _, l := range [][]api.Decl{{d}, {{Name: "x"}, d}, {d, {Name: "x"}}} {
			wantError(t, api.Program{Decls: l}, api.ErrArg)
			wantError(t, api.Program{Decls: l, Threads: [][]api.Stmt{{fence(6)}}}, api.ErrArg)
		}
	}
}

// What one thread, or one statement, has must not be told because the others may be.
func TestOneOfManyThatMayNotBe(t *testing.T) {
	for _, s := range []api.Stmt{{}, {Kind: 12}, {Kind: -1}, fence(0), fence(7), set("", num(1)), set("sc", num(1)), access(2, "r", "", 3),
		access(2, "r", "x", 3, num(1)), access(3, "r", "x", 3, num(1)), access(4, "r", "x", 3, num(1)), assume(op(5, num(1))), assert(op(2)),
		{Kind: api.StWhile}, {Kind: api.StIf, Then: fences(1)}, {Kind: api.StWhile, Exprs: []api.Expr{num(1)}, Else: fences(1)}} {
		wantStmtError(t, s, api.ErrArg)
		for _, around := range arounds() {
			wantStmtError(t, around(list(fence(6), s)), api.ErrArg)
			wantError(t, thread(fence(6), around(list(s)), fence(6)), api.ErrArg)
		}
		wantError(t, api.Program{Threads: [][]api.Stmt{{fence(6)}, {s}, {fence(6)}}}, api.ErrArg)
	}
}

// spoiled goes through all fields and lists of v, and calls f with each of them given other values in turn.
func spoiled(v reflect.Value, f func()) {
	old := reflect.New(v.Type()).Elem()
	old.Set(v)
	put := func(to any) {
		v.Set(reflect.ValueOf(to).Convert(v.Type()))
		f()
		v.Set(old)
	}
	switch v.Kind() {
	case reflect.Struct:
		for i := range v.NumField() {
			spoiled(v.Field(i), f)
		}
	case reflect.Slice:
		for i := range v.Len() {
			spoiled(v.Index(i), f)
		}
		v.SetZero()
		f()
		v.Set(reflect.Append(old.Slice3(0, old.Len(), old.Len()), reflect.Zero(v.Type().Elem())))
		f()
		v.Set(old)
	case reflect.String:
		for _, to := range []string{"", "q", "while", "1", "a b", "_"} {
			put(to)
		}
	case reflect.Int, reflect.Int64:
		for _, to := range []int{math.MinInt, -1, 0, 1, 2, 3, 7, 10, 11, 12, 17, math.MaxInt} {
			put(to)
		}
	}
}

// With each field of a program changed in turn there is just as often a text as it still may be.
func TestEachFieldChanged(t *testing.T) {
	good, bad := 0, 0
	for _, p := range trees.Programs(120) {
		spoiled(reflect.ValueOf(&p).Elem(), func() {
			if err := ast.Check(p); err != api.OK {
				wantError(t, p, err)
				bad++
				return
			}
			if got, err := show.Program(p); err != api.OK || got == "" && len(p.Decls)+len(p.Threads) > 0 {
				t.Errorf("%s: %q, %d", brief(p), got, err)
			}
			good++
		})
		for _, s := range slices.Concat(p.Threads...) {
			spoiled(reflect.ValueOf(&s).Elem(), func() { wantOnlyIf(t, show.Stmt, s, ast.Check(thread(s))) })
			for _, e := range s.Exprs {
				spoiled(reflect.ValueOf(&e).Elem(), func() { wantOnlyIf(t, show.Expr, e, ast.CheckExpr(e)) })
			}
		}
	}
	if good < 1000 || bad < 1000 {
		t.Error("hardly any", good, bad)
	}
}

// wantOnlyIf asks for a text just if there is no error.
func wantOnlyIf[T any](t *testing.T, call func(T) (string, api.Errno), of T, wantErr api.Errno) {
	t.Helper()
	if got, err := call(of); err != wantErr || (got == "") != (wantErr != api.OK) {
		t.Errorf("%s: %q, %d, not %d", brief(of), got, err, wantErr)
	}
}
