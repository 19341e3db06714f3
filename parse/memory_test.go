package parse_test

// Tests of the rules that hold everywhere: answers are new memory, and a call's answer hangs on its text alone.

import (
	"reflect"
	"slices"
	"strings"
	"testing"
	"unsafe"

	"cantilever/api"
	"cantilever/parse"
)

// A room is where something stands in memory: from its first byte to the one behind its last.
type room [2]uintptr

// rooms are those of all lists in v, up to the end of their spare room, and of all texts.
func rooms(v reflect.Value) []room {
	var l []room
	switch v.Kind() {
	case reflect.Struct:
		for i := range v.NumField() {
			l = append(l, rooms(v.Field(i))...)
		}
	case reflect.Slice:
		if v.Cap() > 0 {
			l = append(l, room{v.Pointer(), v.Pointer() + uintptr(v.Cap())*v.Type().Elem().Size()})
		}
		for i := range v.Len() {
			l = append(l, rooms(v.Index(i))...)
		}
	case reflect.String:
		if v.Len() > 0 {
			l = append(l, textRoom(v.String()))
		}
	}
	return l
}

func textRoom(s string) room {
	from := uintptr(unsafe.Pointer(unsafe.StringData(s)))
	return room{from, from + uintptr(len(s))}
}

// shared tells whether any two of these rooms have something in common.
func shared(l []room) bool {
	slices.SortFunc(l, func(a, b room) int { return slices.Compare(a[:], b[:]) })
	for i := 1; i < len(l); i++ {
		if l[i][0] < l[i-1][1] {
			return true
		}
	}
	return false
}

// scribble changes all that stands in v, up to the end of its lists' spare room.
func scribble(v reflect.Value) {
	switch v.Kind() {
	case reflect.Struct:
		for i := range v.NumField() {
			scribble(v.Field(i))
		}
	case reflect.Slice:
		full := v.Slice(0, v.Cap())
		for i := range full.Len() {
			scribble(full.Index(i))
		}
	case reflect.String:
		v.SetString(v.String() + "!")
	case reflect.Bool:
		v.SetBool(!v.Bool())
	default:
		v.SetInt(v.Int() + 1)
	}
}

// An answer is all that the three calls tell of texts: a program's, its first thread's, and an expression's.
type answer struct {
	program api.Program
	stmts   []api.Stmt
	expr    api.Expr
}

func answers(s, within, e string) *answer {
	var a answer
	a.program, _ = parse.Parse(s)
	a.stmts, _ = parse.Stmts(within)
	a.expr, _ = parse.Expr(e)
	return &a
}

func (a *answer) rooms() []room {
	return slices.Concat(rooms(reflect.ValueOf(a.program)), rooms(reflect.ValueOf(a.stmts)), rooms(reflect.ValueOf(a.expr)))
}

func (a *answer) same(b *answer) bool { return reflect.DeepEqual(a, b) }

func (a *answer) scribble() {
	for _, v := range []any{&a.program, &a.stmts, &a.expr} {
		scribble(reflect.ValueOf(v).Elem())
	}
}

func TestAnswersShareNoMemory(t *testing.T) {
	for _, s := range samples() {
		within := strings.TrimSuffix(strings.TrimPrefix(s, "thread {"), "}")
		e := "a + a * - ( b || ! 1 ) - a"
		a, b := answers(s, within, e), answers(s, within, e)
		all := slices.Concat(a.rooms(), b.rooms(), []room{textRoom(e)})
		if s != "" {
			all = append(all, textRoom(s)) // the other text lies in this one
		}
		if shared(all) {
			t.Errorf("%q: lists or texts share memory", s)
		}
		old := answers(s, within, e)
		a.scribble()
		if !b.same(old) || !answers(s, within, e).same(old) {
			t.Errorf("%q: changing an answer changes another one", s)
		}
	}
}

// What is put behind one list of an answer is in no other one.
func TestListsMayGrow(t *testing.T) {
	const s = "thread { if (a) { r = 1; s = 2; t = 3; } else if (b) { r = 1; } fence(sc); } thread { r = cas(x, 1, 2, sc); } thread { }"
	p, _ := parse.Parse(s)
	old, _ := parse.Parse(s)
	first := p.Threads[0]
	_ = append(first, fence(1), fence(1), fence(1))
	_ = append(first[0].Then, fence(1))
	_ = append(first[0].Else, fence(1))
	_ = append(first[0].Else[0].Then, fence(1))
	_ = append(first[0].Exprs, num(9))
	_ = append(p.Threads[1][0].Exprs, num(9))
	_ = append(p.Threads, []api.Stmt{fence(1)})
	if !reflect.DeepEqual(p, old) {
		t.Error(brief(p))
	}
}

func TestCallsDependOnTheirTextsAlone(t *testing.T) {
	const s, in, e = "shared x = 1; thread { r = load(x, acq); }", "while (a) { if (b) { } }", "a - -b"
	want := answers(s, in, e)
	for _, other := range []string{"#", "thread {", strings.Repeat("(", 500), strings.Repeat("-", 500), strings.Repeat("if(a){", 300), "thread { r = 1; }"} {
		answers(other, other, other)
		if !answers(s, in, e).same(want) {
			t.Errorf("behind %.50q other answers", other)
		}
	}
	done := make(chan *answer)
	for range 8 {
		go func() { done <- answers(s, in, e) }()
	}
	for range 8 {
		if !(<-done).same(want) {
			t.Error("calls at once: other answers")
		}
	}
}
