package ast_test

// Tests of P3.1: Check and CheckExpr, of what may be and what may not.

import (
	"math"
	"reflect"
	"strings"
	"testing"

	"cantilever/api"
	"cantilever/ast"
)

// The errors' numbers as the document's section 'Limits' tells them.
func TestNumbersOfTheDocument(t *testing.T) {
	if api.OK != 0 || api.ErrArg != 2 || api.ErrLong != 3 || api.MaxSize != maxSize || api.MaxNest != maxNest ||
		api.OpNum != 1 || api.OpTimes != 16 || api.StSet != 1 || api.StWhile != 11 || api.OrdNa != 1 || api.OrdSc != 6 {
		t.Error("package api")
	}
}

func TestCheckExamples(t *testing.T) {
	wantCheck(t, "the chapter's program", chapter(), api.OK)
	p := chapter()
	p.Threads[0][0].Else = []api.Stmt{fence()}
	wantCheck(t, "an Else in a load", p, api.ErrArg)
	if got := ast.CheckExpr(num(-1)); got != api.ErrArg {
		t.Error(got)
	}
}

func TestCheckOfLittle(t *testing.T) {
	wantCheck(t, "nothing", api.Program{}, api.OK)
	wantCheck(t, "empty lists", api.Program{Decls: []api.Decl{}, Threads: [][]api.Stmt{}}, api.OK)
	wantCheck(t, "threads without statements", api.Program{Threads: [][]api.Stmt{nil, {}, nil}}, api.OK)
	wantCheck(t, "a location alone", api.Program{Decls: []api.Decl{{Name: "x"}}}, api.OK)
	wantCheck(t, "a statement of nothing", thread(api.Stmt{}), api.ErrArg)
	wantCheck(t, "a location of nothing", api.Program{Decls: []api.Decl{{}}}, api.ErrArg)
	if got := ast.CheckExpr(api.Expr{}); got != api.ErrArg {
		t.Error(got)
	}
}

// How many threads and locations there are, and whether they are told twice, is another layer's question.
func TestCheckOfManyThreadsAndDecls(t *testing.T) {
	p := api.Program{Threads: make([][]api.Stmt, 5000)}
	for range 5000 {
		p.Decls = append(p.Decls, api.Decl{Name: "x"})
	}
	wantCheck(t, "many", p, api.OK)
	p.Decls[4999].Name = "if"
	wantCheck(t, "many, the last one wrong", p, api.ErrArg)
}

func TestCheckOfEachKind(t *testing.T) {
	for _, f := range kinds() {
		wantStmt(t, f, rightStmt(f), api.OK)
	}
	wantCheck(t, "all of them", rich(), api.OK)
}

func TestCheckOfKindsThatThereAreNot(t *testing.T) {
	for _, f := range kinds() {
		for _, k := range append(strange(), 12, 13, 256+1) {
			s := rightStmt(f)
			s.Kind = k
			wantStmt(t, s, s, api.ErrArg)
		}
	}
	for _, k := range append(strange(), 12) {
		wantStmt(t, k, api.Stmt{Kind: k}, api.ErrArg)
	}
}

// A statement of one Kind told as one of another is right just if both have the same (but for Then and Else, which may be empty).
func TestCheckOfKindsTakenForOthers(t *testing.T) {
	for _, f := range kinds() {
		for _, g := range kinds() {
			alike := func(field string) bool { return f.has(field) == g.has(field) }
			want := api.ErrArg
			if f.trees == g.trees && alike("Name") && alike("Loc") && alike("Order") {
				want = api.OK
			}
			s := rightStmt(f)
			s.Kind, s.Then, s.Else = g.number, nil, nil
			wantStmt(t, s, s, want)
		}
	}
}

func TestCheckOfNamesAndLocs(t *testing.T) {
	for _, f := range kinds() {
		for _, name := range append(words(), noWords()...) {
			s := rightStmt(f)
			s.Name = name
			wantStmt(t, s, s, textVerdict(f.has("Name"), name))
			s = rightStmt(f)
			s.Loc = name
			wantStmt(t, s, s, textVerdict(f.has("Loc"), name))
		}
	}
}

// textVerdict is what a Name or Loc brings: a word is right where there is one, else the empty text.
func textVerdict(has bool, name string) api.Errno {
	if has && plainWord(name) || !has && name == "" {
		return api.OK
	}
	return api.ErrArg
}

// The plain reckoning of words is held against the two lists.
func TestPlainWords(t *testing.T) {
	for _, w := range words() {
		if !plainWord(w) {
			t.Errorf("%.20q", w)
		}
	}
	for _, w := range noWords() {
		if plainWord(w) {
			t.Errorf("%.20q", w)
		}
	}
}

// Any order may stand in any access: which of them go together is another layer's question.
func TestCheckOfOrders(t *testing.T) {
	for _, f := range kinds() {
		for _, o := range append(strange(), 1, 2, 3, 4, 5, 6, 7, 8) {
			s := rightStmt(f)
			s.Order = o
			want := api.ErrArg
			if f.has("Order") && 1 <= o && o <= 6 || !f.has("Order") && o == 0 {
				want = api.OK
			}
			wantStmt(t, s, s, want)
		}
	}
}

func TestCheckOfExprsTooFewOrTooMany(t *testing.T) {
	for _, f := range kinds() {
		for n := range 5 {
			s := rightStmt(f)
			s.Exprs = make([]api.Expr, n)
			for i := range s.Exprs {
				s.Exprs[i] = num(int64(i))
			}
			want := api.ErrArg
			if n == f.trees {
				want = api.OK
			}
			wantStmt(t, s, s, want)
		}
	}
}

func TestCheckOfThenAndElse(t *testing.T) {
	for _, f := range kinds() {
		for _, l := range [][]api.Stmt{nil, {}, {fence()}, {fence(), assume(num(1)), fence()}, {{}}, {fence(), {Kind: 12}}} {
			for _, field := range []string{"Then", "Else"} {
				s := rightStmt(f)
				reflect.ValueOf(&s).Elem().FieldByName(field).Set(reflect.ValueOf(l))
				wrong := len(l) > 0 && l[len(l)-1].Kind != api.StFence
				want := api.OK
				if wrong || len(l) > 0 && !f.has(field) {
					want = api.ErrArg
				}
				wantStmt(t, s, s, want)
			}
		}
	}
}

func TestCheckOfDecls(t *testing.T) {
	for _, plain := range []bool{false, true} {
		for _, name := range append(words(), noWords()...) {
			d := api.Decl{Name: name, Plain: plain}
			for _, l := range [][]api.Decl{{d}, {d, {Name: "y"}}, {{Name: "y"}, d}, {{Name: "y"}, d, {Name: "z"}}} {
				wantCheck(t, d, api.Program{Decls: l}, textVerdict(true, name))
			}
		}
		for _, n := range []int64{0, 1, 2, 1 << 32, math.MaxInt64} {
			wantCheck(t, n, api.Program{Decls: []api.Decl{{Name: "x", Plain: plain, Value: n}}}, api.OK)
			wantCheck(t, -1-n, api.Program{Decls: []api.Decl{{Name: "y"}, {Name: "x", Plain: plain, Value: -1 - n}}}, api.ErrArg)
		}
	}
}

func TestCheckOfEachOp(t *testing.T) {
	for _, f := range ops() {
		wantExpr(t, f, rightExpr(f), api.OK)
	}
}

// Words have no greatest length.
func TestCheckOfALongWord(t *testing.T) {
	long := strings.Repeat("w", 1<<17)
	wantCheck(t, "a location", api.Program{Decls: []api.Decl{{Name: long}}}, api.OK)
	wantCheck(t, "a statement", thread(api.Stmt{Kind: api.StLoad, Name: long, Loc: long, Order: api.OrdSc}), api.OK)
	wantExpr(t, "a register", reg(long), api.OK)
	wantExpr(t, "a register, at the end none", reg(long+"-"), api.ErrArg)
}

func TestCheckOfOpsThatThereAreNot(t *testing.T) {
	for _, f := range ops() {
		for _, o := range append(strange(), 256+1) {
			e := rightExpr(f)
			e.Op = o
			wantExpr(t, e, e, api.ErrArg)
		}
	}
	for _, o := range strange() {
		wantExpr(t, o, api.Expr{Op: o}, api.ErrArg)
	}
}

func TestCheckOfNums(t *testing.T) {
	for _, f := range ops() {
		for _, n := range []int64{0, 1, 2, 1 << 31, 1 << 62, math.MaxInt64, -1, -2, -1 << 31, math.MinInt64} {
			e := rightExpr(f)
			e.Num = n
			want := api.ErrArg
			if n == 0 || n > 0 && f.has("Num") {
				want = api.OK
			}
			wantExpr(t, e, e, want)
		}
	}
}

func TestCheckOfNamesInExprs(t *testing.T) {
	for _, f := range ops() {
		for _, name := range append(words(), noWords()...) {
			e := rightExpr(f)
			e.Name = name
			if got, want := ast.CheckExpr(e), textVerdict(f.has("Name"), name); got != want {
				t.Errorf("%s: %d, not %d", brief(e), got, want)
			}
		}
		for _, name := range []string{"", "a", "if", "1", "a b", "0"} {
			e := rightExpr(f)
			e.Name = name
			wantExpr(t, e, e, textVerdict(f.has("Name"), name))
		}
	}
}

func TestCheckOfKidsTooFewOrTooMany(t *testing.T) {
	for _, f := range ops() {
		for n := range 5 {
			e := rightExpr(f)
			e.Kids = make([]api.Expr, n)
			for i := range e.Kids {
				e.Kids[i] = reg("k")
			}
			want := api.ErrArg
			if n == f.trees {
				want = api.OK
			}
			wantExpr(t, e, e, want)
		}
	}
}

// Nothing that is wrong is overlooked, wherever it stands: one thing of a whole program is changed at a time.
func TestCheckLooksEverywhere(t *testing.T) {
	p := rich()
	places(reflect.ValueOf(&p).Elem(), func(place reflect.Value) {
		old := reflect.New(place.Type()).Elem()
		old.Set(place)
		for _, wrong := range []any{-1, int64(-1), "a b"} {
			if w := reflect.ValueOf(wrong); w.Type() == place.Type() {
				place.Set(w)
				wantCheck(t, wrong, p, api.ErrArg)
			}
		}
		place.Set(old)
	})
	wantCheck(t, "the program behind all this", p, api.OK)
}

func TestCheckLikeThePlainOne(t *testing.T) {
	count := map[api.Errno]int{}
	for i, p := range programs() {
		want := plainCheck(p)
		count[want]++
		wantCheck(t, i, p, want)
		nodes(reflect.ValueOf(p), 0, func(node any, _ int) {
			e, ok := node.(api.Expr)
			if want := plainCheck(e); ok && ast.CheckExpr(e) != want {
				t.Errorf("CheckExpr of %s: not %d", brief(e), want)
			}
		})
	}
	if count[api.OK] < 700 || count[api.ErrArg] < 300 {
		t.Error("the programs themselves", count)
	}
}
