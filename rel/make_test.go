package rel_test

// Tests of P1.1: Check, None, Self, Of, Has.

import (
	"math"
	"testing"

	"cantilever/api"
	"cantilever/rel"
)

func TestCheck(t *testing.T) {
	for _, r := range wide() {
		if e := rel.Check(r); e != api.OK {
			t.Fatal(r, e)
		}
	}
	for _, r := range wrong() {
		if e := rel.Check(r); e != api.ErrArg {
			t.Error(r, e)
		}
	}
}

func TestCheckTakesNoRowsInEitherForm(t *testing.T) {
	if rel.Check(api.Rel{}) != api.OK || rel.Check(api.Rel{Rows: []uint64{}}) != api.OK {
		t.Error("nothing related to nothing may be")
	}
}

// Each bit of each row counts, and just those from N on are wrong.
func TestCheckLooksAtEachBit(t *testing.T) {
	for n := range api.MaxThings + 1 {
		for i := range n {
			for j := range 64 {
				r := api.Rel{N: n, Rows: make([]uint64, n)}
				r.Rows[i] = 1 << j
				if (rel.Check(r) == api.OK) != (j < n) {
					t.Fatal(n, i, j, rel.Check(r))
				}
			}
		}
	}
}

func TestNoneAndSelf(t *testing.T) {
	for n := range api.MaxThings + 1 {
		wantRel(t, "None", rel.None(n), asRel(newTable(n)))
		wantRel(t, "Self", rel.Self(n), asRel(fill(n, func(i, j int) bool { return i == j })))
	}
	for _, n := range []int{math.MinInt, -64, -1, 65, 128, math.MaxInt} {
		wantZero(t, "None", rel.None(n))
		wantZero(t, "Self", rel.Self(n))
		wantZero(t, "Of", rel.Of(n, [2]int{0, 0}, [2]int{1, 2}))
	}
}

func TestOf(t *testing.T) {
	wantRel(t, "a few", of(4, 3, 0, 0, 2), api.Rel{N: 4, Rows: []uint64{4, 0, 0, 1}})
	wantRel(t, "twice", of(2, 1, 0, 1, 0), api.Rel{N: 2, Rows: []uint64{0, 1}})
	wantRel(t, "without pairs", rel.Of(3), rel.None(3))
	wantRel(t, "of nothing", rel.Of(0, [2]int{0, 0}), api.Rel{})
	last := asRel(fill(64, func(i, j int) bool { return i+j == 63 && (i == 0 || j == 0) }))
	wantRel(t, "the last of 64", of(64, 0, 63, 63, 0), last)
}

func TestOfLeavesOutPairsWithStrangeNumbers(t *testing.T) {
	for _, n := range []int{0, 1, 3, 63, 64} {
		good := [2]int{n - 1, 0}
		want := rel.Of(n, good)
		for _, k := range strange(n) {
			if 0 <= k && k < n {
				continue
			}
			wantRel(t, "Of", rel.Of(n, [2]int{k, 0}, good, [2]int{0, k}, [2]int{k, k}), want)
		}
	}
}

func TestHas(t *testing.T) {
	for _, r := range wide() {
		for i, row := range asTable(r) {
			for j, yes := range row {
				if rel.Has(r, i, j) != yes {
					t.Fatal(r, i, j)
				}
			}
		}
	}
}

func TestHasTellsNothingOfStrangeNumbers(t *testing.T) {
	for _, n := range []int{0, 1, 3, 63, 64} {
		r := asRel(fill(n, func(i, j int) bool { return true }))
		for _, k := range strange(n) {
			if 0 <= k && k < n {
				continue
			}
			if rel.Has(r, k, 0) || rel.Has(r, 0, k) || rel.Has(r, k, k) {
				t.Error(n, k)
			}
		}
	}
}

func TestHasTellsNothingOfWrongRelations(t *testing.T) {
	bad := append(wrong(), api.Rel{N: 2, Rows: []uint64{7, 3}}, api.Rel{N: 2, Rows: []uint64{3}})
	for _, r := range bad {
		for i := range 3 {
			for j := range 3 {
				if rel.Has(r, i, j) {
					t.Error(r, i, j)
				}
			}
		}
	}
}
