package rel_test

// Tests of P1.2: Or, And, Less, Then, Turn, Plus, Acyclic, Sort, Only, Image, Pairs, Same.

import (
	"slices"
	"testing"

	"cantilever/api"
	"cantilever/rel"
)

// both tells a function's answer for two relations, and what it is by a truth about the two bits.
type both struct {
	name string
	call func(a, b api.Rel) api.Rel
	rule func(a, b bool) bool
}

func boths() []both {
	return []both{
		{"Or", func(a, b api.Rel) api.Rel { return rel.Or(a, b) }, func(a, b bool) bool { return a || b }},
		{"And", rel.And, func(a, b bool) bool { return a && b }},
		{"Less", rel.Less, func(a, b bool) bool { return a && !b }},
	}
}

// pairsOf goes through pairs of relations of one N: all of 2 things, some of each size.
func pairsOf(f func(a, b api.Rel)) {
	lists := [][]api.Rel{every(0), every(1), every(2)}
	for _, n := range sizes() {
		lists = append(lists, some(n))
	}
	for _, l := range lists {
		for _, a := range l {
			for _, b := range l {
				f(a, b)
			}
		}
	}
}

func TestOrAndLess(t *testing.T) {
	for _, c := range boths() {
		pairsOf(func(a, b api.Rel) {
			x, y := asTable(a), asTable(b)
			want := fill(a.N, func(i, j int) bool { return c.rule(x[i][j], y[i][j]) })
			wantRel(t, c.name, c.call(a, b), asRel(want))
		})
	}
}

func TestThen(t *testing.T) {
	pairsOf(func(a, b api.Rel) {
		wantRel(t, "Then", rel.Then(a, b), asRel(thenTable(asTable(a), asTable(b))))
	})
	for _, a := range every(2) {
		for _, b := range every(2) {
			for _, c := range every(2) {
				want := thenTable(thenTable(asTable(a), asTable(b)), asTable(c))
				wantRel(t, "Then of three", rel.Then(a, b, c), asRel(want))
			}
		}
	}
}

func TestOrAndThenOfOneAndOfNone(t *testing.T) {
	for _, r := range wide() {
		wantRel(t, "Or", rel.Or(r), r)
		wantRel(t, "Then", rel.Then(r), r)
	}
	wantZero(t, "Or", rel.Or())
	wantZero(t, "Then", rel.Then())
}

func TestOrOfMany(t *testing.T) {
	l := some(64)
	want := fill(64, func(i, j int) bool {
		return slices.ContainsFunc(l[3:6], func(r api.Rel) bool { return asTable(r)[i][j] })
	})
	wantRel(t, "Or", rel.Or(l[3:6]...), asRel(want))
}

func TestUnlikeNs(t *testing.T) {
	a, b := of(2, 0, 1), of(3, 0, 1)
	for _, c := range boths() {
		wantZero(t, c.name, c.call(a, b))
		wantZero(t, c.name, c.call(b, a))
		wantZero(t, c.name, c.call(a, api.Rel{}))
	}
	for _, l := range [][]api.Rel{{a, b}, {b, a}, {a, a, b}, {a, b, a}, {b, a, a}, {a, rel.None(0)}} {
		wantZero(t, "Or", rel.Or(l...))
		wantZero(t, "Then", rel.Then(l...))
	}
	if rel.Same(a, b) || rel.Same(rel.None(1), rel.None(2)) {
		t.Error("Same")
	}
}

func TestTurn(t *testing.T) {
	for _, r := range wide() {
		x := asTable(r)
		wantRel(t, "Turn", rel.Turn(r), asRel(fill(r.N, func(i, j int) bool { return x[j][i] })))
	}
}

func TestPlusAndAcyclic(t *testing.T) {
	for _, r := range wide() {
		far := plusTable(asTable(r))
		wantRel(t, "Plus", rel.Plus(r), asRel(far))
		ring := false
		for i := range far {
			ring = ring || far[i][i]
		}
		if rel.Acyclic(r) == ring {
			t.Fatal("Acyclic", r)
		}
	}
}

func TestSort(t *testing.T) {
	for _, r := range wide() {
		want, yes := sortTable(asTable(r))
		got, ok := rel.Sort(r)
		if ok != yes || !slices.Equal(got, want) {
			t.Fatal(r, got, ok, want, yes)
		}
	}
}

func TestSortOfNothing(t *testing.T) {
	if l, ok := rel.Sort(rel.None(0)); !ok || len(l) != 0 {
		t.Error(l, ok)
	}
}

func TestSortTakesTheLeastFirst(t *testing.T) {
	for n := range api.MaxThings + 1 {
		l, ok := rel.Sort(rel.None(n))
		if !ok || len(l) != n || !slices.IsSorted(l) {
			t.Error(n, l, ok)
		}
	}
	if l, ok := rel.Sort(of(5, 4, 0, 2, 1)); !ok || !slices.Equal(l, []int{2, 1, 3, 4, 0}) {
		t.Error(l, ok)
	}
}

// masks has sets of things: none, all, single ones at the edges, and mixed ones.
func masks() []uint64 {
	return []uint64{0, ^uint64(0), 1, 2, 4, 1 << 62, 1 << 63, mix(1), mix(2), mix(1) & mix(2) & mix(3)}
}

func TestOnly(t *testing.T) {
	for _, r := range wide() {
		x := asTable(r)
		for _, from := range masks() {
			for _, to := range masks() {
				want := fill(r.N, func(i, j int) bool { return x[i][j] && from>>i&1 == 1 && to>>j&1 == 1 })
				wantRel(t, "Only", rel.Only(r, from, to), asRel(want))
			}
		}
	}
}

func TestImage(t *testing.T) {
	for _, r := range wide() {
		for _, from := range masks() {
			var want uint64
			for i, row := range r.Rows {
				if from&(1<<i) != 0 {
					want |= row
				}
			}
			if got := rel.Image(r, from); got != want {
				t.Fatalf("%v from %#x: %#x, not %#x", r, from, got, want)
			}
		}
	}
}

func TestPairs(t *testing.T) {
	for _, r := range wide() {
		var want [][2]int
		for i, row := range asTable(r) {
			for j, yes := range row {
				if yes {
					want = append(want, [2]int{i, j})
				}
			}
		}
		if got := rel.Pairs(r); !slices.Equal(got, want) {
			t.Fatal(r, got)
		}
		wantRel(t, "Of its Pairs", rel.Of(r.N, want...), r)
	}
}

func TestSame(t *testing.T) {
	for _, n := range []int{0, 1, 2} {
		for i, a := range every(n) {
			for j, b := range every(n) {
				if rel.Same(a, b) != (i == j) {
					t.Fatal(a, b)
				}
			}
		}
	}
	for _, n := range sizes() {
		for _, r := range some(n) {
			for i := range r.Rows {
				other := rel.Or(r)
				other.Rows[i] ^= 1 << (n - 1)
				if !rel.Same(r, rel.Or(r)) || rel.Same(r, other) {
					t.Fatal(r, other)
				}
			}
		}
	}
	if !rel.Same(api.Rel{}, api.Rel{Rows: []uint64{}}) {
		t.Error("no rows, in either form")
	}
}

func TestExamples(t *testing.T) {
	wantRel(t, "Plus", rel.Plus(of(3, 0, 1, 1, 2)), of(3, 0, 1, 0, 2, 1, 2))
	if l, ok := rel.Sort(of(4, 3, 0, 0, 2)); !ok || !slices.Equal(l, []int{1, 3, 0, 2}) {
		t.Error(l, ok)
	}
	if rel.Acyclic(of(2, 0, 1, 1, 0)) || rel.Acyclic(of(1, 0, 0)) || !rel.Acyclic(rel.None(0)) {
		t.Error("Acyclic")
	}
	wantRel(t, "Then", rel.Then(of(3, 0, 1), of(3, 1, 2)), of(3, 0, 2))
	if m := rel.Image(of(3, 0, 1, 0, 2), 1); m != 6 {
		t.Error(m)
	}
}

func TestWrongRelationsTellNothing(t *testing.T) {
	for _, r := range wrong() {
		wantZero(t, "Turn", rel.Turn(r))
		wantZero(t, "Plus", rel.Plus(r))
		wantZero(t, "Only", rel.Only(r, ^uint64(0), ^uint64(0)))
		if l, ok := rel.Sort(r); ok || len(l) != 0 {
			t.Error("Sort", r, l, ok)
		}
		if rel.Acyclic(r) || rel.Image(r, ^uint64(0)) != 0 || len(rel.Pairs(r)) != 0 || rel.Same(r, r) {
			t.Error("Acyclic, Image, Pairs, Same", r)
		}
		wantZero(t, "Or", rel.Or(r))
		wantZero(t, "Then", rel.Then(r))
		good := rel.None(r.N)
		for _, l := range [][]api.Rel{{r, good}, {good, r}, {good, r, good}} {
			wantZero(t, "Or", rel.Or(l...))
			wantZero(t, "Then", rel.Then(l...))
		}
		for _, c := range boths() {
			wantZero(t, c.name, c.call(r, r))
			wantZero(t, c.name, c.call(r, good))
			wantZero(t, c.name, c.call(good, r))
		}
		if rel.Same(r, good) || rel.Same(good, r) {
			t.Error("Same", r)
		}
	}
}

func TestSortOfARingTellsNothing(t *testing.T) {
	for _, r := range []api.Rel{of(1, 0, 0), of(3, 1, 2, 2, 1), of(64, 63, 63), some(64)[5]} {
		if l, ok := rel.Sort(r); ok || len(l) != 0 {
			t.Error(r, l, ok)
		}
	}
}
