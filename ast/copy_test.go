package ast_test

// Tests of P3.2, Copy, and of the rules that hold everywhere: answers are new memory, and what is handed in stays as it was.

import (
	"reflect"
	"slices"
	"testing"

	"cantilever/api"
	"cantilever/ast"
)

func TestCopyIsTheSame(t *testing.T) {
	for i, p := range append(programs(), odd()) {
		c := ast.Copy(p)
		if !reflect.DeepEqual(c, p) || !ast.Same(c, p) || everything(c) != everything(cloned(p)) {
			t.Fatal(i, brief(p))
		}
	}
	if c := ast.Copy(api.Program{}); len(c.Decls) != 0 || len(c.Threads) != 0 {
		t.Error(c)
	}
}

// All that stands in a copy is changed, up to the end of its lists' spare room; and all of what was copied.
func TestCopyStandsByItself(t *testing.T) {
	for i, p := range append(programs(), odd()) {
		p = roomy(p)
		before := everything(p)
		scribble(reflect.ValueOf(ptr(ast.Copy(p))).Elem())
		if everything(p) != before {
			t.Fatal(i, "changing the copy changes what was copied")
		}
		c := ast.Copy(p)
		before = everything(c)
		scribble(reflect.ValueOf(&p).Elem())
		if everything(c) != before {
			t.Fatal(i, "changing what was copied changes the copy")
		}
	}
}

func ptr[T any](v T) *T { return &v }

func TestCopySharesNoLists(t *testing.T) {
	for i, p := range append(programs(), odd()) {
		p = roomy(p)
		if !apart(slices.Concat(rooms(p), rooms(ast.Copy(p)), rooms(ast.Copy(p)))) {
			t.Fatal(i, "lists share memory")
		}
	}
	// The same list in many places of a program is a list of its own in each place of the copy.
	l := []api.Stmt{assume(op(api.OpNeg, num(1))), fence()}
	within := api.Stmt{Kind: api.StIf, Exprs: l[0].Exprs, Then: l, Else: l[:1]}
	c := ast.Copy(api.Program{Threads: [][]api.Stmt{l, l, {within, within}, l[1:]}})
	if !apart(rooms(c)) || len(rooms(c)) != 25 {
		t.Error("lists of the copy share memory", len(rooms(c)))
	}
}

// The spare room of what is handed in is no part of it.
func TestSpareRoomIsNotRead(t *testing.T) {
	for i, p := range programs() {
		r := roomy(p)
		wantCheck(t, i, r, ast.Check(p))
		wantSize(t, i, r, ast.Size(p), ast.Deep(p))
		for k, l := range r.Threads {
			if !slices.Equal(ast.Regs(l), ast.Regs(p.Threads[k])) || !slices.Equal(ast.Kinds(l), ast.Kinds(p.Threads[k])) {
				t.Error(i, k, "Regs, Kinds")
			}
		}
	}
}

// No call changes what is handed in, its spare room neither.
func TestAskingChangesNothing(t *testing.T) {
	for i, p := range append(programs(), odd()) {
		a, b := roomy(p), roomy(p)
		before := everything(a)
		ast.Check(a)
		ast.Size(a)
		ast.Deep(a)
		ast.Same(a, b)
		ast.Copy(a)
		for _, l := range a.Threads {
			ast.Regs(l)
			ast.Kinds(l)
			for _, s := range l {
				for _, e := range s.Exprs {
					ast.CheckExpr(e)
					ast.SameExpr(e, e)
				}
			}
		}
		if everything(a) != before || everything(b) != before {
			t.Fatal(i, brief(p))
		}
	}
}

// A list that was answered is the caller's: changing it, or what was handed in, changes no other answer.
func TestListsAreNewMemory(t *testing.T) {
	for i, p := range programs() {
		for _, l := range roomy(p).Threads {
			regs, kinds := ast.Regs(l), ast.Kinds(l)
			oldRegs, oldKinds := slices.Clone(regs), slices.Clone(kinds)
			before := everything(l)
			scribble(reflect.ValueOf(ptr(ast.Regs(l))).Elem())
			scribble(reflect.ValueOf(ptr(ast.Kinds(l))).Elem())
			if everything(l) != before || !slices.Equal(ast.Regs(l), oldRegs) || !slices.Equal(ast.Kinds(l), oldKinds) {
				t.Fatal(i, "changing an answer changes others")
			}
			scribble(reflect.ValueOf(&l).Elem())
			if !slices.Equal(regs, oldRegs) || !slices.Equal(kinds, oldKinds) {
				t.Fatal(i, "changing what was handed in changes an answer")
			}
		}
	}
}
