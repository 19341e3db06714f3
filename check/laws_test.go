package check_test

// Tests of P6.2: a program that may be run stays so.

import (
	"slices"
	"strings"
	"testing"

	"cantilever/api"
	"cantilever/check"
	"cantilever/trees"
)

// without is l without the statement of that number, and what is in it; rest is how many numbers there were too few.
func without(l []api.Stmt, number int) (left []api.Stmt, rest int) {
	for i, s := range l {
		if number == 0 {
			return append(left, l[i+1:]...), -1
		}
		number--
		if s.Then, number = without(s.Then, number); number >= 0 {
			s.Else, number = without(s.Else, number)
		}
		left = append(left, s)
		if number < 0 {
			return append(left, l[i+1:]...), -1
		}
	}
	return left, number
}

// greatest are programs that may be run, at the limits.
func greatest(t *testing.T) []api.Program {
	thread := "thread { " + setting(names("r", maxRegs)...) + "r00 = load(x00, sc); store(x05, r15, rel); while (r03) { if (r05) { fence(ar); } else { assert(r00); } } } "
	return []api.Program{
		read(t, sharing(names("x", maxLocs)...)+strings.Repeat(thread, maxThreads)),
		{Threads: [][]api.Stmt{fences(maxSize / 2), fences(maxSize / 2)}},
		sound(t),
	}
}

func withThread(p api.Program, i int, l []api.Stmt) api.Program {
	p.Threads = slices.Clone(p.Threads)
	p.Threads[i] = l
	return p
}

func wantStaysSo(t *testing.T, p api.Program) {
	t.Helper()
	if where, err := check.Check(p); where != at(0, 0) || err != api.OK {
		t.Errorf("Check of %s: %v, %d", brief(p), where, err)
	}
	if got, err := check.Tables(p); !sameTables(got, plainTables(p)) || err != api.OK {
		t.Errorf("Tables of %s: %v, %d", brief(p), got, err)
	}
}

func TestStatementsTakenAway(t *testing.T) {
	taken := 0
	for _, p := range append(trees.Runnables(600), greatest(t)...) {
		for i, thread := range p.Threads {
			for n := range min(len(flat(thread)), 60) {
				left, rest := without(thread, n)
				if rest != -1 || len(flat(left)) >= len(flat(thread)) {
					t.Fatal("none taken", n)
				}
				wantStaysSo(t, withThread(p, i, left))
				taken++
			}
			wantStaysSo(t, withThread(p, i, nil))
		}
	}
	if taken < 2000 {
		t.Error("hardly any", taken)
	}
}

// One behind the other till none is left.
func TestAllStatementsTakenAway(t *testing.T) {
	for seed, p := range append(trees.Runnables(200), greatest(t)[0]) {
		m := trees.NewMaker(uint64(seed))
		for i := range p.Threads {
			for all := len(flat(p.Threads[i])); all > 0; all = len(flat(p.Threads[i])) {
				left, _ := without(p.Threads[i], m.Below(all))
				p = withThread(p, i, left)
				wantStaysSo(t, p)
			}
		}
	}
}

func TestThreadsInAnotherOrder(t *testing.T) {
	for _, p := range append(trees.Runnables(300), greatest(t)...) {
		threads := slices.Clone(p.Threads)
		permuted(threads, func() { wantStaysSo(t, api.Program{Decls: p.Decls, Threads: threads}) })
	}
}

// permuted calls f with l in each order.
func permuted[T any](l []T, f func()) {
	if len(l) < 2 {
		f()
		return
	}
	for i := range l {
		l[0], l[i] = l[i], l[0]
		permuted(l[1:], f)
		l[0], l[i] = l[i], l[0]
	}
}

// A fault goes with its thread into another place.
func TestAFaultInAnotherOrderOfThreads(t *testing.T) {
	threads := []string{"thread { r = 1; } ", "thread { } ", "thread { fence(sc); if (r) { fence(rlx); } } ", "thread { s = load(x, acq); } "}
	permuted(threads, func() {
		wrong := slices.IndexFunc(threads, func(s string) bool { return strings.Contains(s, "rlx") })
		wantText(t, "shared x; "+strings.Join(threads, ""), at(wrong+1, 2), api.ErrOrder)
	})
}
