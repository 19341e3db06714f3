package show_test

// Tests of the rules that hold everywhere: answers are new memory, what is handed in stays as it was, and an answer hangs on that alone.

import (
	"reflect"
	"slices"
	"sync"
	"testing"
	"unsafe"

	"cantilever/api"
	"cantilever/ast"
	"cantilever/show"
	"cantilever/trees"
)

// roomy is v in new memory, each list with room to spare, in which things stand that may not be.
func roomy(v reflect.Value) reflect.Value {
	made := reflect.New(v.Type()).Elem()
	switch v.Kind() {
	case reflect.Struct:
		for i := range v.NumField() {
			made.Field(i).Set(roomy(v.Field(i)))
		}
	case reflect.Slice:
		list := reflect.MakeSlice(v.Type(), 0, v.Len()+2)
		for i := range v.Len() {
			list = reflect.Append(list, roomy(v.Index(i)))
		}
		wrong := reflect.New(v.Type().Elem()).Elem()
		if wrong.Kind() == reflect.Struct {
			wrong.FieldByName("Name").SetString("wrong")
		}
		made.Set(reflect.Append(list, wrong, wrong).Slice(0, v.Len()))
	default:
		made.Set(v)
	}
	return made
}

// full is v with the spare room of its lists, as far as it goes.
func full(v reflect.Value) reflect.Value {
	made := reflect.New(v.Type()).Elem()
	switch v.Kind() {
	case reflect.Struct:
		for i := range v.NumField() {
			made.Field(i).Set(full(v.Field(i)))
		}
	case reflect.Slice:
		all := v.Slice(0, v.Cap())
		for i := range all.Len() {
			made.Set(reflect.Append(made, full(all.Index(i))))
		}
	default:
		made.Set(v)
	}
	return made
}

func TestNothingHandedInIsChanged(t *testing.T) {
	for _, original := range trees.Programs(300) {
		p := roomy(reflect.ValueOf(original)).Interface().(api.Program)
		before := full(reflect.ValueOf(p)).Interface()
		text, _ := show.Program(original)
		wantProgram(t, p, text)
		for i, l := range p.Threads {
			for j, s := range l {
				line, _ := show.Stmt(original.Threads[i][j])
				wantStmt(t, s, line)
				for _, e := range s.Exprs {
					wantExpr(t, e, plainExpr(e))
				}
			}
		}
		if !reflect.DeepEqual(full(reflect.ValueOf(p)).Interface(), before) {
			t.Fatal("changed", brief(original))
		}
	}
}

// borrowed is a text in memory that can be written to.
func borrowed(s string) (string, []byte) {
	room := []byte(s)
	return unsafe.String(&room[0], len(room)), room
}

// An answer stays when the memory of the names that it was told of becomes other ones'.
func TestAnswersHaveMemoryOfTheirOwn(t *testing.T) {
	name, room := borrowed("abc")
	p := thread(set(name, reg(name)), access(2, name, name, 2), loop(reg(name)))
	p.Decls = []api.Decl{{Name: name}}
	e, _ := show.Expr(reg(name))
	line, _ := show.Stmt(set(name, reg(name)))
	text, _ := show.Program(p)
	copy(room, "xyz")
	if e != "abc" || line != "abc = abc;\n" {
		t.Errorf("%q, %q", e, line)
	}
	if text != "shared abc = 0;\nthread {\n  abc = abc;\n  abc = load(abc, rlx);\n  while (abc) {\n  }\n}\n" {
		t.Errorf("%q", text)
	}
}

// A tree whose parts stand in many places of it is told at each of them.
func TestPartsThatStandInManyPlaces(t *testing.T) {
	e := op(api.OpMinus, reg("a"), num(1))
	for range 3 {
		e = op(api.OpMinus, e, e)
	}
	s := choice(e, list(assert(e)), list(assert(e)))
	s = choice(e, list(s, s), list(s))
	p := thread(s, s)
	wantExpr(t, e, plainExpr(e))
	wantStmt(t, s, plainStmt(ast.Copy(thread(s)).Threads[0][0]))
	wantProgram(t, p, plainProgram(ast.Copy(p)))
}

func TestNilAndEmptyLists(t *testing.T) {
	s := choice(api.Expr{Op: api.OpNum, Kids: []api.Expr{}}, list(), list())
	s.Else = []api.Stmt{}
	wantStmt(t, s, "if (0) {\n}\n")
	wantStmt(t, api.Stmt{Kind: api.StFence, Order: 2, Exprs: []api.Expr{}, Then: []api.Stmt{}, Else: []api.Stmt{}}, "fence(rlx);\n")
	wantExpr(t, api.Expr{Op: api.OpReg, Name: "a", Kids: []api.Expr{}}, "a")
}

// What a call answers hangs on no call ahead of it or beside it.
func TestCallsBesideEachOther(t *testing.T) {
	l := trees.Programs(60)
	var first []string
	for _, p := range l {
		text, _ := show.Program(p)
		first = append(first, text)
	}
	var all sync.WaitGroup
	for range 8 {
		all.Go(func() {
			for i, p := range slices.Backward(l) {
				if text, err := show.Program(p); text != first[i] || err != api.OK {
					t.Errorf("%q, %d, not %q", text, err, first[i])
				}
			}
		})
	}
	all.Wait()
}
