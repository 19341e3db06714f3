package rel_test

import (
	"math"
	"testing"

	"cantilever/api"
	"cantilever/rel"
)

// A table is a relation told the plain way, for answers that are worked out without bits.
type table [][]bool

func newTable(n int) table {
	t := make(table, n)
	for i := range t {
		t[i] = make([]bool, n)
	}
	return t
}

func fill(n int, f func(i, j int) bool) table {
	t := newTable(n)
	for i := range t {
		for j := range t[i] {
			t[i][j] = f(i, j)
		}
	}
	return t
}

// asTable reads the rows of r itself, by none of the package's calls.
func asTable(r api.Rel) table {
	return fill(r.N, func(i, j int) bool { return r.Rows[i]&(1<<uint(j)) != 0 })
}

func asRel(t table) api.Rel {
	r := api.Rel{N: len(t), Rows: make([]uint64, len(t))}
	for i := range t {
		for j, yes := range t[i] {
			if yes {
				r.Rows[i] |= 1 << uint(j)
			}
		}
	}
	return r
}

func thenTable(a, b table) table {
	t := newTable(len(a))
	for i := range a {
		for j := range a {
			if !a[i][j] {
				continue
			}
			for k := range a {
				t[i][k] = t[i][k] || b[j][k]
			}
		}
	}
	return t
}

// plusTable tells of each thing what comes after it by going there step by step.
func plusTable(a table) table {
	t := newTable(len(a))
	var visit func(from, at int)
	visit = func(from, at int) {
		for to, yes := range a[at] {
			if yes && !t[from][to] {
				t[from][to] = true
				visit(from, to)
			}
		}
	}
	for i := range a {
		visit(i, i)
	}
	return t
}

// sortTable puts the least thing next that none of the things left is related to.
func sortTable(a table) ([]int, bool) {
	put := make([]bool, len(a))
	var l []int
	for len(l) < len(a) {
		next := -1
		for j := len(a) - 1; j >= 0; j-- {
			late := put[j]
			for i := range a {
				late = late || !put[i] && a[i][j]
			}
			if !late {
				next = j
			}
		}
		if next < 0 {
			return nil, false
		}
		put[next] = true
		l = append(l, next)
	}
	return l, true
}

// mix is a number that hangs on its seed alone, with bits that look like no rule.
func mix(seed uint64) uint64 {
	seed += 0x9e3779b97f4a7c15
	seed = (seed ^ seed>>30) * 0xbf58476d1ce4e5b9
	seed = (seed ^ seed>>27) * 0x94d049bb133111eb
	return seed ^ seed>>31
}

// every is each relation of n things, for a small n.
func every(n int) []api.Rel {
	var l []api.Rel
	for bits := range 1 << (n * n) {
		l = append(l, asRel(fill(n, func(i, j int) bool { return bits>>(i*n+j)&1 == 1 })))
	}
	return l
}

// some are relations of n things: empty, full, a line, a ring, thin and thick ones, and such as go only forward.
func some(n int) []api.Rel {
	tell := func(f func(i, j int) bool) api.Rel { return asRel(fill(n, f)) }
	l := []api.Rel{
		tell(func(i, j int) bool { return false }),
		tell(func(i, j int) bool { return true }),
		tell(func(i, j int) bool { return i == j }),
		tell(func(i, j int) bool { return j == i+1 }),
		tell(func(i, j int) bool { return i == j+1 }),
		tell(func(i, j int) bool { return j == (i+1)%n }),
		tell(func(i, j int) bool { return i < j }),
		tell(func(i, j int) bool { return i > j }),
	}
	for _, thin := range []uint64{2, 8, 24, 64} {
		toss := func(i, j int) bool { return mix(uint64(n*4096+i*64+j)+thin<<32)%thin == 0 }
		l = append(l, tell(toss))
		l = append(l, tell(func(i, j int) bool { return i < j && toss(i, j) }))
		l = append(l, tell(func(i, j int) bool { return mix(uint64(i)) < mix(uint64(j)) && toss(i, j) }))
	}
	return l
}

// sizes are the numbers of things that the tests look at beside the small ones: the edges are 0, 63 and 64.
func sizes() []int { return []int{0, 1, 5, 31, 32, 33, 63, 64} }

// wide is every relation of up to 3 things, and some of each of the sizes.
func wide() []api.Rel {
	var l []api.Rel
	for n := range 4 {
		l = append(l, every(n)...)
	}
	for _, n := range sizes() {
		l = append(l, some(n)...)
	}
	return l
}

// wrong are relations that may not be.
func wrong() []api.Rel {
	return []api.Rel{
		{N: -1},
		{N: -1, Rows: []uint64{0}},
		{N: math.MinInt},
		{N: math.MaxInt},
		{N: 65, Rows: make([]uint64, 65)},
		{N: 64, Rows: make([]uint64, 63)},
		{N: 64, Rows: make([]uint64, 65)},
		{N: 0, Rows: []uint64{0}},
		{N: 2},
		{N: 2, Rows: []uint64{0}},
		{N: 2, Rows: []uint64{0, 0, 0}},
		{N: 2, Rows: []uint64{4, 0}},
		{N: 2, Rows: []uint64{0, 1 << 63}},
		{N: 1, Rows: []uint64{3}},
		{N: 63, Rows: append(make([]uint64, 62), 1<<63)},
	}
}

// strange are numbers that are none of n things.
func strange(n int) []int {
	return []int{math.MinInt, -64, -1, n, n + 1, n + 64, 64, 128, math.MaxInt}
}

func isZero(r api.Rel) bool { return r.N == 0 && len(r.Rows) == 0 }

func wantRel(t *testing.T, what string, got, want api.Rel) {
	t.Helper()
	if got.N != want.N || len(got.Rows) != len(want.Rows) {
		t.Fatalf("%s: %d things, %d rows, not %d, %d", what, got.N, len(got.Rows), want.N, len(want.Rows))
	}
	for i, row := range got.Rows {
		if row != want.Rows[i] {
			t.Fatalf("%s: row %d is %#x, not %#x", what, i, row, want.Rows[i])
		}
	}
}

func wantZero(t *testing.T, what string, got api.Rel) {
	t.Helper()
	if !isZero(got) {
		t.Fatalf("%s: %v, not the zero value", what, got)
	}
}

// of is rel.Of with the pairs in a row.
func of(n int, l ...int) api.Rel {
	var pairs [][2]int
	for ; len(l) > 1; l = l[2:] {
		pairs = append(pairs, [2]int{l[0], l[1]})
	}
	return rel.Of(n, pairs...)
}
