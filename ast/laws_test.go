package ast_test

// Tests of P3.3: what follows.

import (
	"reflect"
	"slices"
	"testing"

	"cantilever/api"
	"cantilever/ast"
)

// A copy is the same till something of it is changed; then what it was copied from is as it was.
func TestCopyIsTheSameTillItIsChanged(t *testing.T) {
	for i, p := range append(programs()[:200], rich(), odd()) {
		old := cloned(p)
		c := ast.Copy(p)
		wantSame(t, i, p, c, true)
		places(reflect.ValueOf(&c).Elem(), func(place reflect.Value) {
			if place.Kind() == reflect.Slice {
				return
			}
			before := reflect.New(place.Type()).Elem()
			before.Set(place)
			change(place)
			wantSame(t, i, p, c, false)
			wantSame(t, i, p, old, true)
			place.Set(before)
		})
		wantSame(t, i, p, c, true)
	}
}

// What is put behind a copy's lists is behind those alone.
func TestCopyMayGrow(t *testing.T) {
	p := roomy(rich())
	before := everything(p)
	c := ast.Copy(p)
	c.Decls = append(c.Decls, api.Decl{Name: "new"})
	c.Threads[0] = append(c.Threads[0], fence())
	s := &c.Threads[0][9]
	s.Exprs, s.Then, s.Else = append(s.Exprs, num(9)), append(s.Then, fence()), append(s.Else, fence())
	s.Exprs[0].Kids = append(s.Exprs[0].Kids, num(9))
	c.Threads = append(c.Threads, nil)
	if everything(p) != before {
		t.Error("changed")
	}
	wantSame(t, "grown", p, c, false)
}

func TestSizeIsAtLeastDeep(t *testing.T) {
	for i, p := range slices.Concat(programs(), great(300), deep(300)) {
		if s, d := ast.Size(p), ast.Deep(p); s < d || (s == 0) != (d == 0) {
			t.Error(i, s, d)
		}
	}
	for n := 2; n < 50; n++ {
		wantSize(t, "a chain", thread(assume(chain(n-1))), n, n)
	}
}

// Same tells of all programs beside each other what holding them against each other by reflection does.
func TestSameOfAnyTwo(t *testing.T) {
	l := slices.Concat(programs()[:60], programs()[700:760])
	for i, a := range l {
		for k, b := range l {
			want := everything(cloned(a)) == everything(cloned(b))
			if ast.Same(a, b) != want {
				t.Error(i, k, "not", want)
			}
		}
	}
}

// A program asked again, or behind others, brings the same answers.
func TestCallsDependOnTheirArgumentsAlone(t *testing.T) {
	ask := func(p api.Program) []any {
		l := []any{ast.Check(p), ast.Size(p), ast.Deep(p), everything(ast.Copy(p)), ast.Same(p, chapter())}
		for _, s := range p.Threads {
			l = append(l, ast.Regs(s), ast.Kinds(s))
		}
		return l
	}
	first := ask(rich())
	for _, p := range programs() {
		ask(p)
	}
	if !reflect.DeepEqual(first, ask(rich())) {
		t.Error(first, ask(rich()))
	}
}
