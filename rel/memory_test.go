package rel_test

// Tests of the rules that hold everywhere: answers are new memory, and what is handed in stays as it was.

import (
	"slices"
	"testing"

	"cantilever/api"
	"cantilever/rel"
)

const mark = 0xabcdef

// roomy is a relation whose rows have marked room behind them.
func roomy(r api.Rel) (api.Rel, []uint64) {
	room := append(slices.Clone(r.Rows), mark, mark, mark, mark)
	return api.Rel{N: r.N, Rows: room[:r.N]}, room
}

// calls has each call that answers a relation, made of two that are handed in.
func calls() []func(a, b api.Rel) api.Rel {
	return []func(a, b api.Rel) api.Rel{
		func(a, b api.Rel) api.Rel { return rel.Or(a) },
		func(a, b api.Rel) api.Rel { return rel.Or(a, b) },
		rel.And,
		rel.Less,
		func(a, b api.Rel) api.Rel { return rel.Then(a) },
		func(a, b api.Rel) api.Rel { return rel.Then(a, b) },
		func(a, b api.Rel) api.Rel { return rel.Turn(a) },
		func(a, b api.Rel) api.Rel { return rel.Plus(a) },
		func(a, b api.Rel) api.Rel { return rel.Only(a, 3, 3) },
		func(a, b api.Rel) api.Rel { return rel.Only(a, ^uint64(0), ^uint64(0)) },
	}
}

func TestAnswersAreNewMemory(t *testing.T) {
	for _, n := range []int{0, 1, 3, 64} {
		for k, call := range calls() {
			a, roomA := roomy(of(n, 0, 1, 1, 2, n-1, 0))
			b, roomB := roomy(of(n, 1, 1, 0, 2))
			oldA, oldB := slices.Clone(roomA), slices.Clone(roomB)
			got := call(a, b)
			scribble(got)
			if !slices.Equal(roomA, oldA) || !slices.Equal(roomB, oldB) {
				t.Error("changed or shared", n, k)
			}
			again := call(a, b)
			scribble(again)
			for i := range a.Rows {
				a.Rows[i], b.Rows[i] = 0, 0
			}
			if full := again.Rows[:cap(again.Rows)]; slices.ContainsFunc(full, func(row uint64) bool { return row != mark+1 }) {
				t.Error("kept", n, k)
			}
		}
	}
}

// scribble writes over a relation's rows, their spare room too.
func scribble(r api.Rel) {
	full := r.Rows[:cap(r.Rows)]
	for i := range full {
		full[i] = mark + 1
	}
}

func TestAskingChangesNothing(t *testing.T) {
	a, room := roomy(of(5, 0, 1, 1, 4, 3, 0))
	b, _ := roomy(of(5, 0, 1))
	old := slices.Clone(room)
	rel.Check(a)
	rel.Has(a, 0, 1)
	rel.Acyclic(a)
	rel.Image(a, 7)
	rel.Same(a, b)
	l, _ := rel.Sort(a)
	l[0] = 9
	p := rel.Pairs(a)
	p[0] = [2]int{9, 9}
	if !slices.Equal(room, old) {
		t.Error(room)
	}
}

func TestOfLeavesItsPairsAlone(t *testing.T) {
	room := [][2]int{{0, 1}, {7, 7}, {1, 0}, {2, 2}}
	old := slices.Clone(room)
	r := rel.Of(3, room[:3]...)
	room[0] = [2]int{2, 1}
	wantRel(t, "Of", r, api.Rel{N: 3, Rows: []uint64{2, 1, 0}})
	room[0] = old[0]
	if !slices.Equal(room, old) {
		t.Error(room)
	}
}

func TestListsOfRelationsStay(t *testing.T) {
	a, b, c := of(2, 0, 1), of(2, 1, 0), of(2, 1, 1)
	room := []api.Rel{a, b, c}
	rel.Or(room[:2]...)
	rel.Then(room[:2]...)
	for i, r := range []api.Rel{of(2, 0, 1), of(2, 1, 0), of(2, 1, 1)} {
		wantRel(t, "the list", room[i], r)
	}
}
