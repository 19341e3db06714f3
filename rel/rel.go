// Package rel is layer 1: relations between few things, as bits. Its promises stand in shared/doc/01-rel.md.
package rel

import (
	"iter"
	"math/bits"
	"slices"

	"cantilever/api"
)

// Check tells whether r may be.
func Check(r api.Rel) api.Errno {
	if !counts(r.N) || len(r.Rows) != r.N {
		return api.ErrArg
	}
	for _, row := range r.Rows {
		if row&^all(r.N) != 0 {
			return api.ErrArg
		}
	}
	return api.OK
}

// None is the relation of n things without a pair.
func None(n int) api.Rel {
	if !counts(n) {
		return api.Rel{}
	}
	return api.Rel{N: n, Rows: make([]uint64, n)}
}

// Self relates each of n things to itself.
func Self(n int) api.Rel {
	r := None(n)
	for i := range r.Rows {
		r.Rows[i] = uint64(1) << i
	}
	return r
}

// Of relates n things by just these pairs; a pair with a number that is none of the things is left out.
func Of(n int, l ...[2]int) api.Rel {
	r := None(n)
	for _, p := range l {
		if within(r, p[0]) && within(r, p[1]) {
			r.Rows[p[0]] |= uint64(1) << p[1]
		}
	}
	return r
}

// Has tells whether r relates i to j.
func Has(r api.Rel, i, j int) bool {
	if Check(r) != api.OK || !within(r, i) || !within(r, j) {
		return false
	}
	return holds(r.Rows[i], j)
}

// Or has all pairs of any of l.
func Or(l ...api.Rel) api.Rel {
	if !alike(l...) {
		return api.Rel{}
	}
	sum := None(l[0].N)
	for _, r := range l {
		for i, row := range r.Rows {
			sum.Rows[i] |= row
		}
	}
	return sum
}

// And has the pairs that both have.
func And(a, b api.Rel) api.Rel {
	if !alike(a, b) {
		return api.Rel{}
	}
	both := None(a.N)
	for i := range both.Rows {
		both.Rows[i] = a.Rows[i] & b.Rows[i]
	}
	return both
}

// Less has the pairs of a that b has not.
func Less(a, b api.Rel) api.Rel {
	if !alike(a, b) {
		return api.Rel{}
	}
	left := None(a.N)
	for i := range left.Rows {
		left.Rows[i] = a.Rows[i] &^ b.Rows[i]
	}
	return left
}

// Then has all of l one behind the other.
func Then(l ...api.Rel) api.Rel {
	if !alike(l...) {
		return api.Rel{}
	}
	way := Self(l[0].N)
	for _, r := range l {
		for i, row := range way.Rows {
			way.Rows[i] = image(r.Rows, row)
		}
	}
	return way
}

// Turn is r turned round.
func Turn(r api.Rel) api.Rel {
	if Check(r) != api.OK {
		return api.Rel{}
	}
	back := None(r.N)
	for i, row := range r.Rows {
		for j := range things(row) {
			back.Rows[j] |= uint64(1) << i
		}
	}
	return back
}

// Plus is the closure of r.
func Plus(r api.Rel) api.Rel {
	if Check(r) != api.OK {
		return api.Rel{}
	}
	far := None(r.N)
	copy(far.Rows, r.Rows)
	// After round k the rows have all ways whose inner stops are at most k, so one round a thing is enough.
	for k := range far.Rows {
		for i, row := range far.Rows {
			if holds(row, k) {
				far.Rows[i] |= far.Rows[k]
			}
		}
	}
	return far
}

// Acyclic tells whether r's closure relates nothing to itself.
func Acyclic(r api.Rel) bool {
	if Check(r) != api.OK {
		return false
	}
	for i, row := range Plus(r).Rows {
		if holds(row, i) {
			return false
		}
	}
	return true
}

// Sort lists all things, each ahead of those that it is related to, the least that can come next first.
func Sort(r api.Rel) ([]int, bool) {
	if Check(r) != api.OK {
		return nil, false
	}
	back := Turn(r)
	rest := all(r.N)
	l := make([]int, 0, r.N)
	for rest != 0 {
		i := first(back.Rows, rest)
		if i < 0 {
			return nil, false
		}
		l = append(l, i)
		rest &^= uint64(1) << i
	}
	return l, true
}

// Only has the pairs of r from a thing of from to one of to.
func Only(r api.Rel, from, to uint64) api.Rel {
	if Check(r) != api.OK {
		return api.Rel{}
	}
	part := None(r.N)
	for i := range things(from & all(r.N)) {
		part.Rows[i] = r.Rows[i] & to
	}
	return part
}

// Image has the bits of all things that one of from's is related to.
func Image(r api.Rel, from uint64) uint64 {
	if Check(r) != api.OK {
		return 0
	}
	return image(r.Rows, from&all(r.N))
}

// Pairs lists all pairs of r, by the first, then the second.
func Pairs(r api.Rel) [][2]int {
	if Check(r) != api.OK {
		return nil
	}
	var l [][2]int
	for i, row := range r.Rows {
		for j := range things(row) {
			l = append(l, [2]int{i, j})
		}
	}
	return l
}

// Same tells whether a and b have the same things and the same pairs.
func Same(a, b api.Rel) bool {
	return alike(a, b) && slices.Equal(a.Rows, b.Rows)
}

// counts tells whether there can be n things.
func counts(n int) bool {
	return 0 <= n && n <= api.MaxThings
}

// within tells whether i is one of r's things.
func within(r api.Rel, i int) bool {
	return 0 <= i && i < r.N
}

// all has the bits of n things. With 64 of them nothing is left of the shifted 1, and 1 less is every bit.
func all(n int) uint64 {
	return uint64(1)<<n - 1
}

// holds tells whether a row has the bit of thing j.
func holds(row uint64, j int) bool {
	return row>>j&1 == 1
}

// alike tells whether there are any in l, all of them may be, and all are of one N.
func alike(l ...api.Rel) bool {
	for _, r := range l {
		if Check(r) != api.OK || r.N != l[0].N {
			return false
		}
	}
	return len(l) > 0
}

// things goes through the things of a mask, the least first.
func things(mask uint64) iter.Seq[int] {
	return func(yield func(int) bool) {
		i := 0
		for rest := mask; rest != 0; rest >>= 1 {
			gap := bits.TrailingZeros64(rest)
			rest >>= gap
			i += gap
			if !yield(i) {
				return
			}
			i++
		}
	}
}

// image is Image for rows that may be, from having bits of their things alone.
func image(rows []uint64, from uint64) uint64 {
	var to uint64
	for i := range things(from) {
		to |= rows[i]
	}
	return to
}

// first is the least thing of rest that nothing of rest is related to, or -1; back has r turned round.
func first(back []uint64, rest uint64) int {
	for i := range things(rest) {
		if back[i]&rest == 0 {
			return i
		}
	}
	return -1
}
