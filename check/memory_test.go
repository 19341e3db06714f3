package check_test

// Tests of the rules that hold everywhere: answers are new memory, what is handed in stays as it was, an answer hangs
// on that alone, and no call panics.

import (
	"math"
	"reflect"
	"slices"
	"strings"
	"sync"
	"testing"
	"unsafe"

	"cantilever/api"
	"cantilever/ast"
	"cantilever/check"
	"cantilever/trees"
)

// Rooms are lists with spare room, in which things stand that may not be; each tells whether all in it is as it was.
type rooms []func() bool

func roomy[T any](r *rooms, l []T, wrong T) []T {
	full := append(slices.Clip(l), wrong, wrong)
	before := slices.Clone(full)
	*r = append(*r, func() bool { return reflect.DeepEqual(full, before) })
	return full[:len(l)]
}

func (r *rooms) program(p api.Program) api.Program {
	p.Decls = roomy(r, p.Decls, api.Decl{Name: "wrong", Value: -1})
	var threads [][]api.Stmt
	for _, l := range p.Threads {
		threads = append(threads, r.stmts(l))
	}
	p.Threads = roomy(r, threads, []api.Stmt{{}})
	return p
}

func (r *rooms) stmts(l []api.Stmt) []api.Stmt {
	var made []api.Stmt
	for _, s := range l {
		s.Exprs, s.Then, s.Else = r.exprs(s.Exprs), r.stmts(s.Then), r.stmts(s.Else)
		made = append(made, s)
	}
	return roomy(r, made, api.Stmt{Kind: -1, Name: "wrong"})
}

func (r *rooms) exprs(l []api.Expr) []api.Expr {
	var made []api.Expr
	for _, e := range l {
		e.Kids = r.exprs(e.Kids)
		made = append(made, e)
	}
	return roomy(r, made, api.Expr{Op: api.OpReg, Name: "wrong"})
}

func (r *rooms) tables(of api.Tables) api.Tables {
	of.Locs = roomy(r, of.Locs, api.Decl{Name: "wrong"})
	var regs [][]string
	for _, l := range of.Regs {
		regs = append(regs, roomy(r, l, "wrong"))
	}
	of.Regs = roomy(r, regs, []string{"wrong"})
	return of
}

func (r *rooms) stayed() bool {
	return !slices.ContainsFunc(*r, func(asBefore func() bool) bool { return !asBefore() })
}

func TestNothingHandedInIsChangedOrReadTooFar(t *testing.T) {
	for seed, original := range slices.Concat(trees.Runnables(300), trees.Programs(300), greatest(t)) {
		for _, q := range []api.Program{original, spoiled(trees.NewMaker(uint64(seed)), original)} {
			var r rooms
			p := r.program(q)
			where, err := plainCheck(q)
			wantCheck(t, p, where, err)
			of, _ := check.Tables(q)
			given := r.tables(of)
			wantLoc(t, given, "wrong", -1)
			for thread := range len(of.Regs) + 4 {
				wantReg(t, given, thread, "wrong", -1)
			}
			if !r.stayed() || !ast.Same(p, q) {
				t.Fatal("changed", brief(q))
			}
		}
	}
}

// borrowed is a text in memory that can be written to.
func borrowed(s string) (string, []byte) {
	room := []byte(s)
	return unsafe.String(&room[0], len(room)), room
}

// Tables stay when the memory of the program becomes other things', that of its names too.
func TestTablesHaveMemoryOfTheirOwn(t *testing.T) {
	loc, locRoom := borrowed("loc")
	name, nameRoom := borrowed("abc")
	p := api.Program{Decls: []api.Decl{{Name: loc, Value: 7}}, Threads: [][]api.Stmt{{set(name, reg(name))}, {assert(reg(name))}}}
	got, err := check.Tables(p)
	copy(locRoom, "xyz")
	copy(nameRoom, "xyz")
	p.Decls[0] = api.Decl{Name: "other", Plain: true}
	p.Threads[0], p.Threads[1][0] = nil, fence(1)
	want := api.Tables{Locs: []api.Decl{{Name: "loc", Value: 7}}, Regs: [][]string{{"abc"}, {"abc"}}}
	if err != api.OK || !sameTables(got, want) {
		t.Error(got, err)
	}
}

// What is put into an answer, or behind its lists, is in no other list of it, and not in the program.
func TestListsOfTablesMayChangeAndGrow(t *testing.T) {
	for _, p := range append(trees.Runnables(200), greatest(t)...) {
		before := ast.Copy(p)
		want := plainTables(p)
		got, _ := check.Tables(p)
		for i := range got.Regs {
			fill(got.Regs[i], "other")
			for j, l := range got.Regs {
				if j > i && !slices.Equal(l, want.Regs[j]) || j <= i && slices.ContainsFunc(l, func(s string) bool { return s != "other" }) {
					t.Fatal("shared", got)
				}
			}
		}
		if !slices.Equal(got.Locs, want.Locs) {
			t.Fatal("shared", got)
		}
		fill(got.Locs, api.Decl{Name: "other"})
		fill(got.Regs, nil)
		if again, _ := check.Tables(p); !sameTables(again, want) || !ast.Same(p, before) {
			t.Fatal("kept", brief(p))
		}
	}
}

// fill puts a thing everywhere in a list, and in its spare room.
func fill[T any](l []T, with T) {
	l = l[:cap(l)]
	for i := range l {
		l[i] = with
	}
}

// A program whose parts stand in many places of it is checked at each of them.
func TestPartsThatStandInManyPlaces(t *testing.T) {
	e := op(api.OpMinus, reg("a"), num(1))
	l := list(assert(e), set("b", op(api.OpTimes, e, e)))
	l = list(choice(e, l, l), loop(e, l...))
	p := api.Program{Decls: []api.Decl{{Name: "x"}}, Threads: [][]api.Stmt{l, l, l}}
	wantCheck(t, p, at(0, 0), 0)
	got, _ := check.Tables(p)
	if !sameTables(got, api.Tables{Locs: p.Decls, Regs: slices.Repeat([][]string{{"a", "b"}}, 3)}) {
		t.Error(got)
	}
	p.Decls[0].Name = "b"
	wantCheck(t, p, at(1, 2), api.ErrName)
	p.Decls[0].Name = "a"
	wantCheck(t, p, at(1, 0), api.ErrName)
}

func TestNilAndEmptyLists(t *testing.T) {
	wantCheck(t, api.Program{Decls: []api.Decl{}, Threads: [][]api.Stmt{}}, at(0, 0), api.ErrLong)
	wantCheck(t, api.Program{Decls: []api.Decl{}, Threads: [][]api.Stmt{{}, nil}}, at(0, 0), 0)
	s := choice(api.Expr{Op: api.OpNum, Kids: []api.Expr{}}, []api.Stmt{}, []api.Stmt{})
	f := api.Stmt{Kind: api.StFence, Order: api.OrdSc, Exprs: []api.Expr{}, Then: []api.Stmt{}, Else: []api.Stmt{}}
	wantCheck(t, api.Program{Threads: [][]api.Stmt{{s, f}}}, at(0, 0), 0)
	f.Order = api.OrdRlx
	wantCheck(t, api.Program{Threads: [][]api.Stmt{{s, f}}}, at(1, 1), api.ErrOrder)
	empty := api.Tables{Locs: []api.Decl{}, Regs: [][]string{{}}}
	wantLoc(t, empty, "", -1)
	wantReg(t, empty, 1, "", -1)
}

// Trees that have no end, or are far too great or deep, are too great.
func TestTreesWithoutAnEnd(t *testing.T) {
	kids := []api.Expr{{Op: api.OpNot}}
	kids[0].Kids = kids
	then, otherwise := make([]api.Stmt, 1), make([]api.Stmt, 1)
	then[0], otherwise[0] = loop(num(1), then...), choice(num(1), nil, otherwise)
	deep := fence(api.OrdSc)
	for range 60000 {
		deep = loop(num(1), deep)
	}
	for i, l := range [][]api.Stmt{{assume(kids[0])}, then, otherwise, {deep}, fences(1 << 16), {fence(1), deep, {}}} {
		p := api.Program{Decls: []api.Decl{{Name: "x"}, {Name: "x"}}, Threads: [][]api.Stmt{nil, l}}
		where, err := check.Check(p)
		got, tablesErr := check.Tables(p)
		if where != at(0, 0) || err != api.ErrLong || tablesErr != api.ErrLong || len(got.Locs) != 0 || len(got.Regs) != 0 {
			t.Errorf("%d: %v, %d, %d", i, where, err, tablesErr)
		}
	}
}

// No panic and no answer but the one that the plain way tells, whatever stands in each field.
func TestFieldsOfAnySort(t *testing.T) {
	original := sound(t)
	p := ast.Copy(original)
	hold := func() {
		where, err := plainCheck(p)
		wantCheck(t, p, where, err)
		wantLoc(t, api.Tables{Locs: p.Decls}, "x", slices.IndexFunc(p.Decls, func(d api.Decl) bool { return d.Name == "x" }))
	}
	for i := range p.Decls {
		spoilFields(reflect.ValueOf(&p.Decls[i]).Elem(), hold)
	}
	for _, thread := range p.Threads {
		for i := range thread {
			spoilFields(reflect.ValueOf(&thread[i]).Elem(), hold)
		}
	}
	if !ast.Same(p, original) {
		t.Error("the test itself")
	}
}

// spoilFields gives each field of v other values in turn, and calls f with each of them.
func spoilFields(v reflect.Value, f func()) {
	old := reflect.New(v.Type()).Elem()
	old.Set(v)
	put := func(to any) {
		v.Set(reflect.ValueOf(to).Convert(v.Type()))
		f()
		v.Set(old)
	}
	switch v.Kind() {
	case reflect.Struct:
		for i := range v.NumField() {
			spoilFields(v.Field(i), f)
		}
	case reflect.Slice:
		for i := range v.Len() {
			spoilFields(v.Index(i), f)
		}
		put(reflect.Zero(v.Type()).Interface())
		put(reflect.MakeSlice(v.Type(), 1, 3).Interface())
		put(reflect.AppendSlice(old.Slice3(0, old.Len(), old.Len()), old).Interface())
	case reflect.String:
		for _, to := range []string{"", "x", "y", "d", "q", "while", "1", "a b", "\xff", strings.Repeat("z", 1<<17)} {
			put(to)
		}
	case reflect.Bool:
		put(!v.Bool())
	default:
		for _, to := range []int{math.MinInt, -1, 0, 1, 2, 3, 4, 5, 6, 7, 10, 11, 12, 17, math.MaxInt} {
			put(to)
		}
	}
}

// What a call answers hangs on no call ahead of it or beside it.
func TestCallsBesideEachOther(t *testing.T) {
	l := append(trees.Runnables(60), trees.Programs(60)...)
	var all sync.WaitGroup
	for range 8 {
		all.Go(func() {
			for _, p := range slices.Backward(l) {
				where, err := plainCheck(p)
				wantCheck(t, p, where, err)
				wantMay(t, api.StLoad, api.OrdAcq, false, api.OK)
			}
		})
	}
	all.Wait()
}
