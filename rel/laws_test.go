package rel_test

// Tests of P1.3: what follows from what the calls answer.

import (
	"slices"
	"testing"

	"cantilever/api"
	"cantilever/rel"
)

// triples goes through three relations of one N: all of 2 things, some of each size, and such as do not fit.
func triples(f func(a, b, c api.Rel)) {
	lists := [][]api.Rel{every(0), every(1), every(2), append(wrong(), of(2, 0, 1), of(3, 0, 1))}
	for _, n := range sizes() {
		lists = append(lists, some(n))
	}
	for _, l := range lists {
		for _, a := range l {
			for _, b := range l {
				for _, c := range l {
					f(a, b, c)
				}
			}
		}
	}
}

func TestThenAndOrDoNotHangOnBrackets(t *testing.T) {
	triples(func(a, b, c api.Rel) {
		wantRel(t, "Then, left", rel.Then(rel.Then(a, b), c), rel.Then(a, b, c))
		wantRel(t, "Then, right", rel.Then(a, rel.Then(b, c)), rel.Then(a, b, c))
		wantRel(t, "Or, left", rel.Or(rel.Or(a, b), c), rel.Or(a, b, c))
		wantRel(t, "Or, right", rel.Or(a, rel.Or(b, c)), rel.Or(a, b, c))
	})
}

func TestOrDoesNotHangOnTheOrder(t *testing.T) {
	triples(func(a, b, c api.Rel) {
		want := rel.Or(a, b, c)
		for _, l := range [][]api.Rel{{a, c, b}, {b, a, c}, {b, c, a}, {c, a, b}, {c, b, a}} {
			wantRel(t, "Or", rel.Or(l...), want)
		}
	})
}

func TestTurnOfThen(t *testing.T) {
	triples(func(a, b, c api.Rel) {
		want := rel.Then(rel.Turn(c), rel.Turn(b), rel.Turn(a))
		wantRel(t, "Turn of Then", rel.Turn(rel.Then(a, b, c)), want)
	})
	for _, r := range wide() {
		wantRel(t, "Turn of Turn", rel.Turn(rel.Turn(r)), r)
	}
}

func within(a, b api.Rel) bool { return isZero(rel.Less(a, b)) || len(rel.Pairs(rel.Less(a, b))) == 0 }

func TestPlusOfPlus(t *testing.T) {
	for _, r := range wide() {
		far := rel.Plus(r)
		wantRel(t, "Plus of Plus", rel.Plus(far), far)
		if !within(r, far) || !within(rel.Then(far, far), far) {
			t.Fatal("Plus has not what it must", r)
		}
	}
}

// Of all relations that have r, and go on from each pair to the next, none has less than Plus.
func TestPlusIsTheLeast(t *testing.T) {
	for n := range 4 {
		all := every(n)
		closed := slices.DeleteFunc(slices.Clone(all), func(r api.Rel) bool { return !within(rel.Then(r, r), r) })
		for _, r := range all {
			far := rel.Plus(r)
			if !slices.ContainsFunc(closed, func(s api.Rel) bool { return rel.Same(s, far) }) {
				t.Fatal("Plus does not go on", r)
			}
			for _, s := range closed {
				if within(r, s) && !within(far, s) {
					t.Fatal("there is a lesser one", r, far, s)
				}
			}
		}
	}
}

func TestSortIsThereJustIfAcyclic(t *testing.T) {
	for _, r := range append(wide(), wrong()...) {
		l, ok := rel.Sort(r)
		if ok != rel.Acyclic(r) {
			t.Fatal(r, l, ok)
		}
		if !ok {
			continue
		}
		place := make([]int, r.N)
		for at, i := range l {
			place[i] = at
		}
		for _, p := range rel.Pairs(r) {
			if place[p[0]] >= place[p[1]] {
				t.Fatal(r, l, p)
			}
		}
	}
}
