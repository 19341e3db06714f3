package ast_test

// Tests of P3.2: Regs and Kinds.

import (
	"reflect"
	"slices"
	"sort"
	"testing"

	"cantilever/api"
	"cantilever/ast"
)

func wantRegs(t *testing.T, l []api.Stmt, want ...string) {
	t.Helper()
	if got := ast.Regs(l); !slices.Equal(got, want) {
		t.Errorf("Regs of %s: %q, not %q", brief(l), got, want)
	}
}

func wantKinds(t *testing.T, l []api.Stmt, want ...int) {
	t.Helper()
	if got := ast.Kinds(l); !slices.Equal(got, want) {
		t.Errorf("Kinds of %s: %v, not %v", brief(l), got, want)
	}
}

func TestRegsAndKindsExamples(t *testing.T) {
	l := chapter().Threads[0]
	wantRegs(t, l, "r")
	wantKinds(t, l, 0, 1, 1, 0, 0, 0, 0, 0, 0, 1, 0)
}

func TestRegsAndKindsOfNothing(t *testing.T) {
	for _, l := range [][]api.Stmt{nil, {}} {
		wantRegs(t, l)
		wantKinds(t, l, 0, 0, 0, 0, 0, 0, 0, 0, 0, 0, 0)
	}
}

// Names are registers wherever a statement has one, of the Kinds that have none and those that there are not, too; Locs are none.
func TestRegsOfStatementsOfAnyKind(t *testing.T) {
	for k := -2; k <= 14; k++ {
		wantRegs(t, []api.Stmt{{Kind: k, Name: "b", Loc: "x"}}, "b")
		wantRegs(t, []api.Stmt{{Kind: k, Name: "b"}, {Kind: 3, Exprs: []api.Expr{reg("c")}}, {Kind: k, Name: "a"}}, "a", "b", "c")
		wantRegs(t, []api.Stmt{{Kind: k, Loc: "x"}})
		wantRegs(t, []api.Stmt{{Kind: k, Exprs: []api.Expr{reg("e"), reg("d")}}}, "d", "e")
		wantRegs(t, []api.Stmt{{Kind: k, Then: []api.Stmt{{Kind: k, Name: "t"}}, Else: []api.Stmt{{Kind: k, Name: "s"}}}}, "s", "t")
	}
}

func TestRegsOfExpressionsOfAnyOp(t *testing.T) {
	for o := -2; o <= 18; o++ {
		e := api.Expr{Op: o, Name: "b", Kids: []api.Expr{reg("c"), {Op: o, Name: "q", Kids: []api.Expr{reg("a")}}}}
		if o == 2 {
			wantRegs(t, []api.Stmt{assume(e)}, "a", "b", "c", "q")
		} else {
			wantRegs(t, []api.Stmt{assume(e)}, "a", "c")
		}
	}
}

func TestRegsAtAnyDepth(t *testing.T) {
	deep := chain(9)
	l := []api.Stmt{assume(op(api.OpPlus, num(1), op(api.OpLess, deep, op(api.OpNot, reg("k")))))}
	wantRegs(t, l, "k", "r")
	for _, around := range []func([]api.Stmt) api.Stmt{inThen, inElse, inWhile} {
		within := []api.Stmt{fence(), around([]api.Stmt{around(l), {Kind: api.StSet, Name: "a", Exprs: []api.Expr{num(1)}}})}
		wantRegs(t, within, "a", "k", "r")
	}
	both := api.Stmt{Kind: api.StIf, Exprs: []api.Expr{reg("z")}, Then: []api.Stmt{assume(reg("y"))}, Else: []api.Stmt{assume(reg("x"))}}
	wantRegs(t, []api.Stmt{both, both}, "x", "y", "z")
}

// Each name once, byte by byte; the empty one is none; what is no word is a name as well.
func TestRegsRisingEachOnce(t *testing.T) {
	var l []api.Stmt
	for _, name := range []string{"b", "a", "", "b", "r10", "r2", "B", "a_", "aa", "a", "if", "", "1", "a b", "\xff", "é", "\x00", "a0", "aB"} {
		l = append(l, api.Stmt{Kind: api.StLoad, Name: name, Loc: name}, assume(reg(name)))
	}
	wantRegs(t, l, "\x00", "1", "B", "a", "a b", "a0", "aB", "a_", "aa", "b", "if", "r10", "r2", "é", "\xff")
	wantRegs(t, []api.Stmt{{Name: ""}, assume(reg(""))})
}

func TestRegsLikeThePlainOnes(t *testing.T) {
	for _, p := range append(programs(), odd()) {
		for _, l := range p.Threads {
			seen := map[string]bool{}
			nodes(reflect.ValueOf(l), 0, func(node any, _ int) {
				switch n := node.(type) {
				case api.Stmt:
					seen[n.Name] = true
				case api.Expr:
					seen[n.Name] = seen[n.Name] || n.Op == 2
				}
			})
			var want []string
			for name, yes := range seen {
				if yes && name != "" {
					want = append(want, name)
				}
			}
			sort.Strings(want)
			wantRegs(t, l, want...)
		}
	}
}

func TestKindsOfEach(t *testing.T) {
	for k := 1; k <= 11; k++ {
		want := make([]int, 11)
		want[k-1] = 1
		wantKinds(t, []api.Stmt{{Kind: k}}, want...)
		want[k-1] = 3
		wantKinds(t, []api.Stmt{{Kind: k}, {Kind: k}, {Kind: k}}, want...)
	}
	wantKinds(t, rich().Threads[0], 1, 1, 1, 1, 1, 1, 3, 2, 1, 1, 1)
}

// Statements of Kinds that there are not count for none, but what stands in them does; expressions are no statements.
func TestKindsThatThereAreNot(t *testing.T) {
	for _, k := range append(strange(), 12, 13) {
		wantKinds(t, []api.Stmt{{Kind: k}}, 0, 0, 0, 0, 0, 0, 0, 0, 0, 0, 0)
		wantKinds(t, []api.Stmt{{Kind: k, Then: []api.Stmt{fence()}, Else: []api.Stmt{{Kind: k}, {Kind: 11}}}}, 0, 0, 0, 0, 0, 0, 1, 0, 0, 0, 1)
		wantKinds(t, []api.Stmt{{Kind: 1}, {Kind: k, Exprs: []api.Expr{{Op: 5, Kids: []api.Expr{{Op: 7}}}}}, {Kind: 1}}, 2, 0, 0, 0, 0, 0, 0, 0, 0, 0, 0)
	}
}

func TestKindsWithin(t *testing.T) {
	l := []api.Stmt{inThen([]api.Stmt{inElse([]api.Stmt{inWhile([]api.Stmt{fence(), fence()}), fence()})})}
	wantKinds(t, l, 0, 0, 0, 0, 0, 0, 3, 0, 0, 2, 1)
	// A load with an Else may not be; what stands in it counts all the same.
	wantKinds(t, []api.Stmt{{Kind: api.StLoad, Then: l, Else: l}}, 0, 1, 0, 0, 0, 0, 6, 0, 0, 4, 2)
}

func TestKindsLikeThePlainOnes(t *testing.T) {
	for _, p := range append(programs(), odd()) {
		for _, l := range p.Threads {
			want := make([]int, 11)
			nodes(reflect.ValueOf(l), 0, func(node any, _ int) {
				if s, ok := node.(api.Stmt); ok && 1 <= s.Kind && s.Kind <= 11 {
					want[s.Kind-1]++
				}
			})
			wantKinds(t, l, want...)
		}
	}
}
