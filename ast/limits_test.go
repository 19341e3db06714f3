package ast_test

// Tests of P3.1: Size and Deep, and Check and CheckExpr of what is too great, or nested too deep.

import (
	"slices"
	"testing"

	"cantilever/api"
	"cantilever/ast"
)

func wantSize(t *testing.T, what any, p api.Program, size, deep int) {
	t.Helper()
	if s, d := ast.Size(p), ast.Deep(p); s != size || d != deep {
		t.Errorf("%s: %d, %d deep, not %d, %d deep", brief(what), s, d, size, deep)
	}
}

func TestSizeExamples(t *testing.T) {
	wantSize(t, "the chapter's program", chapter(), 9, 4)
}

func TestSizeOfLittle(t *testing.T) {
	wantSize(t, "nothing", api.Program{}, 0, 0)
	wantSize(t, "empty lists", api.Program{Decls: []api.Decl{}, Threads: [][]api.Stmt{}}, 0, 0)
	wantSize(t, "threads without statements", api.Program{Threads: [][]api.Stmt{nil, {}}}, 0, 0)
	wantSize(t, "locations", api.Program{Decls: []api.Decl{{Name: "x"}, {Name: "y", Value: 5}}}, 0, 0)
	wantSize(t, "a statement", thread(fence()), 1, 1)
	wantSize(t, "a statement with an expression", thread(assume(num(1))), 2, 2)
	wantSize(t, "two beside each other", thread(fence(), assume(num(1)), fence()), 4, 2)
	wantSize(t, "threads beside each other", api.Program{Threads: [][]api.Stmt{{fence(), fence()}, nil, {assume(chain(5))}, {fence()}}}, 9, 6)
}

func TestSizeOfEachPlace(t *testing.T) {
	wantSize(t, "Then", thread(inThen([]api.Stmt{fence(), fence()})), 4, 2)
	wantSize(t, "Else", thread(inElse([]api.Stmt{fence(), fence()})), 4, 2)
	wantSize(t, "Then and Else", thread(api.Stmt{Kind: api.StIf, Exprs: []api.Expr{chain(3)}, Then: []api.Stmt{fence()},
		Else: []api.Stmt{assume(chain(4)), fence()}}), 11, 6)
	wantSize(t, "both Kids", thread(assume(op(api.OpPlus, chain(2), chain(7)))), 11, 9)
	wantSize(t, "both Exprs", thread(api.Stmt{Kind: api.StCas, Exprs: []api.Expr{chain(2), chain(7)}}), 10, 8)
	wantSize(t, "the first of both", thread(api.Stmt{Kind: api.StCas, Exprs: []api.Expr{chain(7), chain(2)}}), 10, 8)
}

// What may not be counts, too.
func TestSizeOfWhatMayNotBe(t *testing.T) {
	odd := api.Stmt{Kind: -3, Exprs: []api.Expr{{Op: 99, Kids: []api.Expr{{}, {}, num(-1)}}, {}}, Then: []api.Stmt{{}}, Else: []api.Stmt{{Kind: 12}}}
	wantSize(t, odd, thread(odd), 8, 3)
	wantSize(t, "a load with an Else", thread(api.Stmt{Kind: api.StLoad, Else: []api.Stmt{fence()}}), 2, 2)
	wantSize(t, "a number with Kids", thread(assume(api.Expr{Op: api.OpNum, Kids: []api.Expr{chain(3)}})), 5, 5)
}

func TestSizeLikeThePlainOne(t *testing.T) {
	for i, p := range programs() {
		size, deep := plainSize(p)
		wantSize(t, i, p, size, deep)
	}
}

// great are programs of n expressions and statements, put together in different ways, none of them deep.
func great(n int) []api.Program {
	fences := slices.Repeat([]api.Stmt{fence()}, n)
	l := []api.Program{
		thread(fences...),
		{Threads: [][]api.Stmt{fences[:n/3], nil, fences[n/3 : n-1], fences[:1]}},
		{Threads: [][]api.Stmt{fences[1:], nil, fences[:1]}},
		thread(assume(bush(n - 1))),
		thread(assume(bush(n-2)), fence()),
		thread(fence(), assume(bush(n/2)), assume(bush(n-3-n/2))),
		thread(api.Stmt{Kind: api.StCas, Name: "r", Loc: "x", Order: api.OrdAr, Exprs: []api.Expr{bush(n - 2), num(1)}}),
		thread(api.Stmt{Kind: api.StCas, Name: "r", Loc: "x", Order: api.OrdAr, Exprs: []api.Expr{num(1), bush(n - 2)}}),
		thread(inThen(fences[2:])),
		thread(inElse(fences[2:])),
		thread(inWhile(fences[2:])),
		thread(inWhile([]api.Stmt{inThen(fences[5:]), fence()})),
		thread(api.Stmt{Kind: api.StIf, Exprs: []api.Expr{num(1)}, Then: fences[n/2+2:], Else: fences[:n/2]}),
	}
	return l
}

func TestCheckOfTheGreatest(t *testing.T) {
	for _, n := range []int{maxSize - 1, maxSize, maxSize + 1, maxSize + 2, 2 * maxSize, 1 << 16} {
		want := api.OK
		if n > maxSize {
			want = api.ErrLong
		}
		for i, p := range great(n) {
			if size := ast.Size(p); size != n {
				t.Errorf("%d: %d, not %d", i, size, n)
			}
			wantCheck(t, []int{n, i}, p, want)
		}
		for _, e := range []api.Expr{bush(n), op(api.OpEq, bush(n-2), num(0)), op(api.OpEq, reg("a"), bush(n-2))} {
			if got := ast.CheckExpr(e); got != want {
				t.Errorf("CheckExpr of %d: %d, not %d", n, got, want)
			}
		}
	}
}

// Locations, and threads without statements, are neither expressions nor statements.
func TestCheckCountsNothingElse(t *testing.T) {
	p := thread(slices.Repeat([]api.Stmt{fence()}, maxSize)...)
	p.Decls = slices.Repeat([]api.Decl{{Name: "x"}}, maxSize)
	p.Threads = append(p.Threads, make([][]api.Stmt, maxSize)...)
	wantCheck(t, "the greatest, and more", p, api.OK)
	p.Threads[maxSize] = []api.Stmt{fence()}
	wantCheck(t, "one more at the end", p, api.ErrLong)
}

// deep are programs nested just so deep, in different places.
func deep(n int) []api.Program {
	l := []api.Program{
		thread(assume(chain(n - 1))),
		thread(fence(), assume(num(1)), assume(chain(n-1)), fence()),
		{Threads: [][]api.Stmt{nil, {fence()}, {assume(chain(n - 1))}}},
		thread(assume(op(api.OpAnd, num(1), chain(n-2)))),
		thread(assume(op(api.OpAnd, chain(n-2), num(1)))),
		thread(assume(op(api.OpAnd, num(1), op(api.OpOr, num(1), op(api.OpMost, chain(n-4), num(1)))))),
	}
	for _, f := range kinds() {
		for i := range f.trees {
			s := rightStmt(f)
			s.Exprs[i] = chain(n - 1)
			l = append(l, thread(s))
		}
	}
	for _, around := range []func([]api.Stmt) api.Stmt{inThen, inElse, inWhile} {
		l = append(l, thread(nest(n, around)))
		l = append(l, thread(fence(), around([]api.Stmt{fence(), nest(n-1, around), fence()})))
		l = append(l, thread(around([]api.Stmt{assume(chain(n - 2))})))
		s := nest(n-5, around)
		for _, again := range []func([]api.Stmt) api.Stmt{inElse, inWhile, inThen, inElse, inElse} {
			s = again([]api.Stmt{s, fence()})
		}
		l = append(l, thread(s))
	}
	return l
}

func TestCheckOfTheDeepest(t *testing.T) {
	for _, n := range []int{maxNest - 1, maxNest, maxNest + 1, maxNest + 2, 2 * maxNest, 700} {
		want := api.OK
		if n > maxNest {
			want = api.ErrLong
		}
		for i, p := range deep(n) {
			if d := ast.Deep(p); d != n {
				t.Errorf("%d: %d deep, not %d", i, d, n)
			}
			wantCheck(t, []int{n, i}, p, want)
		}
		for _, e := range []api.Expr{chain(n), op(api.OpEq, chain(n-1), num(0)), op(api.OpEq, reg("a"), chain(n-1))} {
			if got := ast.CheckExpr(e); got != want {
				t.Errorf("CheckExpr of %d deep: %d, not %d", n, got, want)
			}
		}
	}
}

// The same expression may be alone, but not within a statement: that is one deeper, and one more.
func TestCheckOfAnExpressionAloneAndInAStatement(t *testing.T) {
	for _, e := range []api.Expr{chain(maxNest), bush(maxSize)} {
		if got := ast.CheckExpr(e); got != api.OK {
			t.Error(got)
		}
		wantCheck(t, "in a statement", thread(assume(e)), api.ErrLong)
	}
}

// Something that may not be, and is too great or too deep as well, brings ErrLong, wherever which of them stands.
func TestTooGreatGoesAheadOfWrong(t *testing.T) {
	for _, p := range slices.Concat(great(maxSize+1), deep(maxNest+1)) {
		first, last := cloned(p), cloned(p)
		first.Threads = append([][]api.Stmt{{{}}}, first.Threads...)
		last.Threads = append(last.Threads, []api.Stmt{assume(num(-1))})
		decl := cloned(p)
		decl.Decls = []api.Decl{{Name: "if", Value: -1}}
		within := cloned(p)
		within.Threads[len(within.Threads)-1][0].Kind = 12
		for _, wrong := range []api.Program{first, last, decl, within} {
			wantCheck(t, "wrong and too great", wrong, api.ErrLong)
		}
	}
	for _, e := range []api.Expr{bush(maxSize + 1), chain(maxNest + 1), {Kids: make([]api.Expr, maxSize)},
		{Op: 99, Kids: []api.Expr{chain(maxNest)}}, op(api.OpPlus, num(-1), chain(maxNest)), op(api.OpPlus, chain(maxNest), num(-1)),
		op(api.OpPlus, num(-1), bush(maxSize-1)), op(api.OpPlus, bush(maxSize-1), num(-1))} {
		e.Num = -1
		if got := ast.CheckExpr(e); got != api.ErrLong {
			t.Error(got)
		}
	}
}

// What stands where nothing may stand counts as well: just at the limits it is wrong, beyond them too great.
func TestCheckOfTooMuchWhereNothingMayBe(t *testing.T) {
	for more, want := range map[int]api.Errno{0: api.ErrArg, 1: api.ErrLong} {
		n := maxSize - 1 + more
		wantCheck(t, "Else", thread(api.Stmt{Kind: api.StFence, Order: 6, Else: make([]api.Stmt, n)}), want)
		wantCheck(t, "Then", thread(api.Stmt{Kind: api.StFence, Order: 6, Then: make([]api.Stmt, n)}), want)
		wantCheck(t, "Exprs", thread(api.Stmt{Kind: api.StFence, Order: 6, Exprs: make([]api.Expr, n)}), want)
		wantCheck(t, "statements", thread(make([]api.Stmt, n+1)...), want)
		wantCheck(t, "Kids", thread(assume(api.Expr{Op: api.OpNum, Kids: make([]api.Expr, n-1)})), want)
		if got := ast.CheckExpr(api.Expr{Op: api.OpNum, Kids: make([]api.Expr, n)}); got != want {
			t.Error(got)
		}
		wantCheck(t, "deep Kids", thread(assume(api.Expr{Op: api.OpNum, Kids: []api.Expr{chain(maxNest - 2 + more)}})), want)
		wantCheck(t, "a deep Else", thread(api.Stmt{Kind: api.StLoad, Else: []api.Stmt{nest(maxNest-1+more, inElse)}}), want)
	}
}

// Lists may stand in themselves, or in many places: what comes has no end, or more parts than can be gone through.
func TestCheckOfTreesWithoutEnd(t *testing.T) {
	kids := make([]api.Expr, 1)
	kids[0] = op(api.OpNeg, kids...)
	kids[0].Kids = kids
	within := []api.Stmt{inThen(nil), inWhile(nil), inElse(nil)}
	within[0].Then, within[1].Then, within[2].Else = within, within, within
	wide := num(1)
	for range 31 {
		wide = op(api.OpXor, wide, wide)
	}
	body := []api.Stmt{fence()}
	for range 31 {
		body = []api.Stmt{{Kind: api.StIf, Exprs: []api.Expr{wide}, Then: body, Else: body}}
	}
	for _, e := range []api.Expr{kids[0], wide, op(api.OpPlus, num(-1), wide)} {
		if got := ast.CheckExpr(e); got != api.ErrLong {
			t.Error(got)
		}
		wantCheck(t, "an expression", thread(assume(e)), api.ErrLong)
	}
	for _, l := range [][]api.Stmt{within, within[1:], within[2:], body} {
		if got := ast.Check(api.Program{Threads: [][]api.Stmt{l, l}}); got != api.ErrLong {
			t.Error(got)
		}
	}
}

// Each call ends, and tells what it is to tell, of trees as deep as the document's bound lets them be.
func TestCallsOfTheDeepestTrees(t *testing.T) {
	const n = 1<<16 - 2
	for i, p := range []api.Program{thread(assume(chain(n - 1))), thread(nest(n, inThen)), thread(nest(n, inElse)), thread(nest(n, inWhile))} {
		size := n
		if i > 0 {
			size = 2*n - 1
		}
		wantSize(t, i, p, size, n)
		wantCheck(t, i, p, api.ErrLong)
		c := ast.Copy(p)
		if !ast.Same(p, c) || !ast.SameExpr(chain(n), chain(n)) || ast.SameExpr(chain(n), chain(n-1)) {
			t.Error(i, "Copy, Same")
		}
		want := []int{0, 0, 0, 0, 0, 0, 1, 0, 0, n - 1, 0}
		switch i {
		case 0:
			want = []int{0, 0, 0, 0, 0, 0, 0, 1, 0, 0, 0}
		case 3:
			want[9], want[10] = 0, n-1
		}
		if got := ast.Kinds(c.Threads[0]); !slices.Equal(got, want) {
			t.Error(i, got)
		}
		if got := ast.Regs(c.Threads[0]); len(got) != max(0, 1-i) {
			t.Error(i, got)
		}
	}
}
