package ast_test

// Tests of P3.2: Same and SameExpr.

import (
	"reflect"
	"testing"

	"cantilever/api"
	"cantilever/ast"
)

func wantSame(t *testing.T, what any, a, b api.Program, want bool) {
	t.Helper()
	if ast.Same(a, b) != want || ast.Same(b, a) != want {
		t.Errorf("%s: not %v", brief(what), want)
	}
}

func wantSameExpr(t *testing.T, what any, a, b api.Expr, want bool) {
	t.Helper()
	if ast.SameExpr(a, b) != want || ast.SameExpr(b, a) != want {
		t.Errorf("%s: not %v", brief(what), want)
	}
}

func TestSameOfTheSame(t *testing.T) {
	for i, p := range programs() {
		wantSame(t, i, p, p, true)
		wantSame(t, i, p, cloned(p), true)
		wantSame(t, i, p, roomy(p), true)
		nodes(reflect.ValueOf(p), 0, func(node any, _ int) {
			if e, ok := node.(api.Expr); ok {
				wantSameExpr(t, e, e, e, true)
				wantSameExpr(t, e, e, roomy(e), true)
			}
		})
	}
}

// odd has something in each field, so that there is something to change in each.
func odd() api.Program {
	e := api.Expr{Op: 99, Num: -4, Name: "if", Kids: []api.Expr{{Op: -1, Kids: []api.Expr{{}, {Name: "a"}}}, {Num: 1}}}
	s := api.Stmt{Kind: 3, Name: "r", Loc: "x", Order: 9, Exprs: []api.Expr{e, {}}, Then: []api.Stmt{{}, {Exprs: []api.Expr{e}}}, Else: []api.Stmt{{Name: "b"}}}
	within := api.Stmt{Then: []api.Stmt{s}, Else: []api.Stmt{s, {}}}
	return api.Program{Decls: []api.Decl{{}, {Name: "x", Plain: true, Value: -1}}, Threads: [][]api.Stmt{{s, within}, nil, {{}, s}}}
}

// All things of a program are changed one at a time, and each list is made shorter, and longer by something of nothing.
func TestSameOfWhatDiffersInOnePlace(t *testing.T) {
	for _, p := range []api.Program{chapter(), rich(), cloned(odd())} {
		old := cloned(p)
		changed := 0
		places(reflect.ValueOf(&p).Elem(), func(place reflect.Value) {
			before := reflect.New(place.Type()).Elem()
			before.Set(place)
			if place.Kind() != reflect.Slice {
				change(place)
				wantSame(t, place, p, old, false)
				changed++
			} else {
				place.Set(reflect.Append(before.Slice3(0, before.Len(), before.Len()), reflect.Zero(place.Type().Elem())))
				wantSame(t, "one more", p, old, false)
				for n := range before.Len() {
					place.Set(before.Slice(0, n))
					wantSame(t, "fewer", p, old, false)
				}
			}
			place.Set(before)
		})
		wantSame(t, "the program behind all this", p, old, true)
		if changed < 20 {
			t.Error("the program itself", changed)
		}
	}
}

func TestSameExprOfWhatDiffersInOnePlace(t *testing.T) {
	base := op(api.OpPlus, reg("a"), op(api.OpNeg, num(1)))
	for _, other := range []api.Expr{
		{},
		op(api.OpMinus, reg("a"), op(api.OpNeg, num(1))),
		op(api.OpPlus, reg("b"), op(api.OpNeg, num(1))),
		op(api.OpPlus, reg("A"), op(api.OpNeg, num(1))),
		op(api.OpPlus, reg(""), op(api.OpNeg, num(1))),
		op(api.OpPlus, reg("a"), op(api.OpNot, num(1))),
		op(api.OpPlus, reg("a"), op(api.OpNeg, num(2))),
		op(api.OpPlus, reg("a"), op(api.OpNeg, num(1), num(1))),
		op(api.OpPlus, reg("a"), op(api.OpNeg)),
		op(api.OpPlus, reg("a"), num(1)),
		op(api.OpPlus, reg("a")),
		op(api.OpPlus, reg("a"), op(api.OpNeg, num(1)), num(0)),
		op(api.OpPlus, op(api.OpNeg, num(1)), reg("a")),
		{Op: base.Op, Num: 1, Kids: base.Kids},
		{Op: base.Op, Name: "a", Kids: base.Kids},
		{Kids: base.Kids},
	} {
		wantSameExpr(t, other, base, other, false)
		wantSameExpr(t, other, op(api.OpNot, base), op(api.OpNot, other), false)
		wantSame(t, other, thread(assume(base)), thread(assume(other)), false)
	}
	wantSameExpr(t, "told again", base, op(api.OpPlus, reg("a"), op(api.OpNeg, num(1))), true)
}

func TestSameOfNilAndEmptyLists(t *testing.T) {
	wantSame(t, "nothing", api.Program{}, api.Program{}, true)
	wantSame(t, "lists", api.Program{}, api.Program{Decls: []api.Decl{}, Threads: [][]api.Stmt{}}, true)
	wantSame(t, "threads", api.Program{Threads: [][]api.Stmt{nil, {}}}, api.Program{Threads: [][]api.Stmt{{}, nil}}, true)
	wantSame(t, "how many threads", api.Program{}, api.Program{Threads: [][]api.Stmt{nil}}, false)
	full := api.Stmt{Exprs: []api.Expr{}, Then: []api.Stmt{}, Else: []api.Stmt{}}
	wantSame(t, "a statement", thread(api.Stmt{}), thread(full), true)
	wantSame(t, "a statement within", thread(inElse([]api.Stmt{{}})), thread(inElse([]api.Stmt{full})), true)
	wantSameExpr(t, "an expression", api.Expr{}, api.Expr{Kids: []api.Expr{}}, true)
	wantSameExpr(t, "a Kid", op(api.OpNeg, num(1)), op(api.OpNeg, api.Expr{Op: api.OpNum, Num: 1, Kids: []api.Expr{}}), true)
	wantSameExpr(t, "how many Kids", api.Expr{}, api.Expr{Kids: []api.Expr{{}}}, false)
}

// What stands in one list is not what stands in another.
func TestSameOfThingsInOtherLists(t *testing.T) {
	l := []api.Stmt{fence()}
	wantSame(t, "Then, Else", thread(api.Stmt{Then: l}), thread(api.Stmt{Else: l}), false)
	wantSame(t, "within, behind", thread(api.Stmt{Then: l}), thread(append([]api.Stmt{{}}, l...)...), false)
	wantSame(t, "one thread, two", thread(fence(), fence()), api.Program{Threads: [][]api.Stmt{l, l}}, false)
	wantSame(t, "the other way round", api.Program{Threads: [][]api.Stmt{l, nil}}, api.Program{Threads: [][]api.Stmt{nil, l}}, false)
	wantSame(t, "Name, Loc", thread(api.Stmt{Name: "a"}), thread(api.Stmt{Loc: "a"}), false)
	wantSame(t, "Kind, Order", thread(api.Stmt{Kind: 3, Order: 1}), thread(api.Stmt{Kind: 1, Order: 3}), false)
	wantSameExpr(t, "Op, Num", api.Expr{Op: 3, Num: 1}, api.Expr{Op: 1, Num: 3}, false)
	a, b := []api.Decl{{Name: "x"}, {Name: "y"}}, []api.Decl{{Name: "y"}, {Name: "x"}}
	wantSame(t, "locations in another order", api.Program{Decls: a}, api.Program{Decls: b}, false)
	wantSame(t, "fewer locations", api.Program{Decls: a}, api.Program{Decls: a[:1]}, false)
}
