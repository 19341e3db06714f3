package check_test

// Tests of P6.1: Check, what is asked of a whole program, and in which order.

import (
	"strings"
	"testing"

	"cantilever/api"
	"cantilever/ast"
	"cantilever/check"
	"cantilever/trees"
)

// The numbers as the document tells them.
func TestNumbersOfTheDocument(t *testing.T) {
	if api.OK != 0 || api.ErrArg != 2 || api.ErrLong != 3 || api.ErrName != 6 || api.ErrOrder != 7 || api.ErrKind != 8 ||
		api.MaxThreads != maxThreads || api.MaxLocs != maxLocs || api.MaxRegs != maxRegs || api.MaxSize != maxSize || api.MaxNest != maxNest ||
		api.OrdNa != 1 || api.OrdRlx != 2 || api.OrdAcq != 3 || api.OrdRel != 4 || api.OrdAr != 5 || api.OrdSc != 6 ||
		api.StSet != 1 || api.StLoad != 2 || api.StStore != 3 || api.StCas != 4 || api.StAdd != 5 || api.StSwap != 6 || api.StFence != 7 ||
		api.StAssume != 8 || api.StAssert != 9 || api.StIf != 10 || api.StWhile != 11 {
		t.Error("package api")
	}
}

func TestExamples(t *testing.T) {
	wantText(t, "shared x; plain d; thread { d = load(x, acq); }", at(1, 0), api.ErrName)
	wantText(t, "shared x; plain d; thread { r = load(d, acq); }", at(1, 0), api.ErrKind)
	wantText(t, "shared x; plain d; thread { r = load(x, rel); }", at(1, 0), api.ErrOrder)
	wantText(t, "shared x; plain d; thread { r = 1; if (r) { store(y, 1, rel); } }", at(1, 2), api.ErrName)
	if got := check.May(api.StFence, api.OrdRlx, false); got != api.ErrOrder {
		t.Error("May of a fence, rlx:", got)
	}
	if got := check.May(api.StCas, api.OrdNa, false); got != api.ErrKind {
		t.Error("May of a cas, na, not plain:", got)
	}
}

func TestProgramsThatMayBeRun(t *testing.T) {
	wantRuns(t, "thread { }")
	wantRuns(t, "shared x; thread { }")
	wantRuns(t, "thread { r = 1; assert(r == 1); fence(ar); }")
	wantRuns(t, "shared f; plain d; thread { store(d, 1, na); store(f, 1, rel); } thread { r = load(f, acq); if (r) { s = load(d, na); assert(s == 1); } }")
	wantRuns(t, "shared x = 5; thread { r = add(x, 1, rlx); } thread { r = cas(x, 5, r, ar); } thread { r = swap(x, r + 1, sc); while (r) { r = load(x, rlx); } }")
	for _, p := range trees.Runnables(1500) {
		wantCheck(t, p, at(0, 0), 0)
	}
}

// What ast.Check takes for too great, or for what may not be, has its error, and no place.
func TestTreesThatMayNotBe(t *testing.T) {
	wantCheck(t, api.Program{Threads: [][]api.Stmt{fences(maxSize)}}, at(0, 0), 0)
	wantCheck(t, api.Program{Threads: [][]api.Stmt{fences(maxSize + 1)}}, at(0, 0), api.ErrLong)
	half := fences(maxSize / 2)
	wantCheck(t, api.Program{Threads: [][]api.Stmt{half, half}}, at(0, 0), 0)
	wantCheck(t, api.Program{Threads: [][]api.Stmt{half, half, fences(1)}}, at(0, 0), api.ErrLong)
	deep := fence(api.OrdSc)
	for range maxNest - 1 {
		deep = loop(num(1), deep)
	}
	wantCheck(t, api.Program{Threads: [][]api.Stmt{{deep}}}, at(0, 0), 0)
	wantCheck(t, api.Program{Threads: [][]api.Stmt{{loop(num(1), deep)}}}, at(0, 0), api.ErrLong)
	for _, s := range []api.Stmt{{}, {Kind: 12}, {Kind: -1}, fence(0), fence(7), fence(-1), set("", num(1)), set("if", num(1)), set("r", num(-1)),
		access(api.StLoad, "r", "", 3), access(api.StLoad, "r", "x", 0), access(api.StStore, "r", "x", 2, num(1)), assume(op(api.OpPlus, num(1))), assert(op(17))} {
		wantCheck(t, api.Program{Decls: []api.Decl{{Name: "x"}}, Threads: [][]api.Stmt{fences(2), {fence(6), s}}}, at(0, 0), api.ErrArg)
		wantCheck(t, api.Program{Threads: [][]api.Stmt{{choice(num(1), nil, list(s))}}}, at(0, 0), api.ErrArg)
	}
	for _, d := range []api.Decl{{}, {Name: "rel"}, {Name: "1"}, {Name: "x", Value: -1}} {
		wantCheck(t, api.Program{Decls: []api.Decl{{Name: "y"}, d}, Threads: [][]api.Stmt{nil}}, at(0, 0), api.ErrArg)
	}
}

func TestHowManyThreads(t *testing.T) {
	wantText(t, "", at(0, 0), api.ErrLong)
	wantText(t, "shared x; ", at(0, 0), api.ErrLong)
	for n := 1; n <= maxThreads; n++ {
		wantRuns(t, strings.Repeat("thread { } ", n))
		wantRuns(t, "shared x; "+strings.Repeat("thread { r = load(x, sc); } ", n))
	}
	for _, n := range []int{maxThreads + 1, maxThreads + 2, 100} {
		wantText(t, strings.Repeat("thread { } ", n), at(0, 0), api.ErrLong)
		wantText(t, "shared x; "+strings.Repeat("thread { r = load(x, sc); } ", n), at(0, 0), api.ErrLong)
	}
	wantCheck(t, api.Program{Threads: make([][]api.Stmt, 1<<16)}, at(0, 0), api.ErrLong)
}

func TestHowManyLocations(t *testing.T) {
	for n := 1; n <= maxLocs; n++ {
		wantRuns(t, sharing(names("x", n)...)+"thread { }")
	}
	for _, n := range []int{maxLocs + 1, maxLocs + 2, 100} {
		wantText(t, sharing(names("x", n)...)+"thread { }", at(0, 0), api.ErrLong)
	}
	wantRuns(t, "shared a, b, c; plain d, e, f; thread { }")
	wantText(t, "shared a, b, c; plain d, e, f, g; thread { }", at(0, 0), api.ErrLong)
	wantText(t, sharing(names("x", maxLocs)...), at(0, 0), api.ErrLong)
}

// The second location of a name is told by its place; of several the first that has the name of one ahead of it.
func TestLocationsOfOneName(t *testing.T) {
	wantText(t, "shared x, x; thread { }", at(0, 1), api.ErrName)
	wantText(t, "shared x; plain x; thread { }", at(0, 1), api.ErrName)
	wantText(t, "shared x = 1, x = 2; thread { }", at(0, 1), api.ErrName)
	wantText(t, "shared x, y, x; thread { }", at(0, 2), api.ErrName)
	wantText(t, "shared x, y, y, x; thread { }", at(0, 2), api.ErrName)
	wantText(t, "shared x, y, x, y; thread { }", at(0, 2), api.ErrName)
	wantText(t, "shared x, x, x; thread { }", at(0, 1), api.ErrName)
	wantText(t, "shared a, b, c, d, e, a; thread { }", at(0, 5), api.ErrName)
	wantText(t, "shared a, b, c, d, e, e; thread { }", at(0, 5), api.ErrName)
	wantRuns(t, "shared x, X, xx, x1, x_; thread { }")
}

func TestHowManyRegisters(t *testing.T) {
	fit, over := setting(names("r", maxRegs)...), setting(names("r", maxRegs+1)...)
	wantRuns(t, "thread { "+fit+"}")
	wantRuns(t, "thread { "+fit+fit+"}")
	wantRuns(t, "thread { "+fit+"} thread { "+setting(names("s", maxRegs)...)+"} thread { "+setting(names("q", maxRegs)...)+"}")
	wantText(t, "thread { "+over+"}", at(1, 0), api.ErrLong)
	wantText(t, "thread { "+fit+"} thread { fence(sc); "+over+"}", at(2, 0), api.ErrLong)
	wantText(t, "thread { } thread { } thread { } thread { "+over+"}", at(4, 0), api.ErrLong)
	wantText(t, "thread { "+fit+"} thread { "+over+"} thread { "+over+"}", at(2, 0), api.ErrLong)
	wantText(t, "thread { "+setting(names("r", 400)...)+"}", at(1, 0), api.ErrLong)
	// A name that is only read is a register, too, wherever it stands.
	for _, more := range []string{"assert(r16);", "if (r16) { }", "if (1) { r16 = 1; }", "if (1) { } else { r16 = 1; }", "while (0) { assume(- r16); }",
		"store(x, 1 + r16, sc);", "r00 = cas(x, r16, 0, sc);", "r00 = cas(x, 0, r16, sc);", "r16 = load(x, sc);", "if (0) { while (0) { if (0) { } else { r00 = ! (1 + r16); } } }"} {
		wantText(t, "shared x; thread { } thread { "+fit+more+"}", at(2, 0), api.ErrLong)
		wantRuns(t, "shared x; thread { } thread { "+fit+strings.ReplaceAll(more, "r16", "r15")+"}")
	}
	// Locations are none.
	wantRuns(t, sharing(names("x", maxLocs)...)+"thread { "+fit+"r00 = load(x00, sc); r01 = load(x05, sc); }")
}

// A spoiler brings a fault into a program. They are sorted by the order in which their faults are asked.
type spoiler struct {
	spoil func(p *api.Program)
	where api.Where
	err   api.Errno
}

// sound is a program that may be run, with room for each spoiler's fault beside the others.
func sound(t *testing.T) api.Program {
	return read(t, "shared x, y; plain d; thread { r = load(x, acq); s = load(y, acq); store(x, 1, rel); if (r) { r = load(x, acq); } fence(sc); }"+
		" thread { r = load(x, acq); } thread { r = load(x, acq); r = load(x, acq); s = load(x, acq); }")
}

func spoilers() []spoiler {
	over := func(thread int) func(p *api.Program) {
		return func(p *api.Program) {
			for _, name := range names("q", maxRegs+1) {
				p.Threads[thread] = append(p.Threads[thread], set(name, num(0)))
			}
		}
	}
	edit := func(thread, i int, f func(s *api.Stmt)) func(p *api.Program) {
		return func(p *api.Program) { f(&p.Threads[thread][i]) }
	}
	return []spoiler{
		{func(p *api.Program) { p.Threads[2] = append(p.Threads[2], fences(maxSize)...) }, at(0, 0), api.ErrLong},
		{func(p *api.Program) { p.Threads[1] = append(p.Threads[1], api.Stmt{}) }, at(0, 0), api.ErrArg},
		{func(p *api.Program) { p.Decls = append(p.Decls, make([]api.Decl, maxLocs)...); nameAll(p.Decls) }, at(0, 0), api.ErrLong},
		{func(p *api.Program) { p.Threads = append(p.Threads, make([][]api.Stmt, maxThreads)...) }, at(0, 0), api.ErrLong},
		{func(p *api.Program) { p.Decls[1].Name = p.Decls[0].Name }, at(0, 1), api.ErrName},
		{func(p *api.Program) { p.Decls[2].Name = p.Decls[0].Name }, at(0, 2), api.ErrName},
		{edit(0, 0, func(s *api.Stmt) { s.Loc = "no" }), at(1, 0), api.ErrName},
		{edit(0, 0, func(s *api.Stmt) { s.Order = api.OrdRel }), at(1, 0), api.ErrOrder},
		{edit(0, 0, func(s *api.Stmt) { s.Name = "x" }), at(1, 0), api.ErrName},
		{edit(0, 1, func(s *api.Stmt) { s.Order = api.OrdNa }), at(1, 1), api.ErrKind},
		{edit(0, 2, func(s *api.Stmt) { s.Exprs[0] = op(api.OpNot, reg("x")) }), at(1, 2), api.ErrName},
		{edit(0, 3, func(s *api.Stmt) { s.Exprs[0] = reg("x") }), at(1, 3), api.ErrName},
		{edit(0, 3, func(s *api.Stmt) { s.Then[0].Order = api.OrdAr }), at(1, 4), api.ErrOrder},
		{edit(0, 4, func(s *api.Stmt) { s.Order = api.OrdRlx }), at(1, 5), api.ErrOrder},
		{edit(1, 0, func(s *api.Stmt) { s.Order = api.OrdAr }), at(2, 0), api.ErrOrder},
		{edit(2, 0, func(s *api.Stmt) { s.Loc = "no" }), at(3, 0), api.ErrName},
		{edit(2, 1, func(s *api.Stmt) { s.Order = api.OrdNa }), at(3, 1), api.ErrKind},
		{over(0), at(1, 0), api.ErrLong},
		{over(1), at(2, 0), api.ErrLong},
		{over(2), at(3, 0), api.ErrLong},
	}
}

// nameAll gives a name to each location that has none.
func nameAll(l []api.Decl) {
	for i, name := range names("z", len(l)) {
		if l[i].Name == "" {
			l[i].Name = name
		}
	}
}

func TestEachFaultAheadOfTheOthers(t *testing.T) {
	wantCheck(t, sound(t), at(0, 0), 0)
	for i, first := range spoilers() {
		for j, second := range spoilers() {
			p := sound(t)
			second.spoil(&p)
			if i != j {
				first.spoil(&p)
			}
			want := spoilers()[min(i, j)]
			wantCheck(t, p, want.where, want.err)
		}
	}
	all := sound(t)
	for i := len(spoilers()) - 1; i >= 0; i-- {
		spoilers()[i].spoil(&all)
		want := spoilers()[i]
		wantCheck(t, all, want.where, want.err)
	}
}

// Without threads that is told ahead of locations of one name, but not of what may not be.
func TestNoThreads(t *testing.T) {
	wantText(t, "shared x, x;", at(0, 0), api.ErrLong)
	wantCheck(t, api.Program{Decls: []api.Decl{{Name: "x"}, {}}}, at(0, 0), api.ErrArg)
	wantCheck(t, api.Program{}, at(0, 0), api.ErrLong)
}

// spoiled is a copy of p in which a few things are as they come.
func spoiled(m *trees.Maker, p api.Program) api.Program {
	p = ast.Copy(p)
	for range 1 + m.Below(3) {
		switch m.Below(8) {
		case 0:
			p.Decls = append(p.Decls, api.Decl{Name: anyName(m), Plain: m.Below(2) == 0})
		case 1:
			p.Threads = append(p.Threads, []api.Stmt{access(api.StLoad, "r", anyName(m), m.Order())})
		default:
			if len(p.Threads) > 0 {
				spoilOne(m, p.Threads[m.Below(len(p.Threads))])
			}
		}
	}
	return p
}

// anyName is a word, of a location as often as not.
func anyName(m *trees.Maker) string {
	return append(names("x", 3), "x0", "x1", "x2", m.Word(), m.Word())[m.Below(8)]
}

// spoilOne changes a statement of l, or of those in them.
func spoilOne(m *trees.Maker, l []api.Stmt) {
	if len(l) == 0 {
		return
	}
	s := &l[m.Below(len(l))]
	switch {
	case len(s.Then) > 0 && m.Below(2) == 0:
		spoilOne(m, s.Then)
	case len(s.Else) > 0 && m.Below(2) == 0:
		spoilOne(m, s.Else)
	case s.Loc != "" && m.Below(4) == 0:
		s.Loc = anyName(m)
	case s.Order != 0 && m.Below(3) > 0:
		s.Order = m.Order()
	case s.Name != "" && m.Below(2) == 0:
		s.Name = anyName(m)
	case len(s.Exprs) > 0:
		s.Exprs[m.Below(len(s.Exprs))] = op(api.OpPlus, m.Expr(3), op(api.OpNeg, reg(anyName(m))))
	}
}

func TestProgramsOfAnyShape(t *testing.T) {
	count := map[api.Errno]int{}
	places := map[api.Where]struct{}{}
	hold := func(p api.Program) {
		where, err := plainCheck(p)
		wantCheck(t, p, where, err)
		count[err]++
		places[where] = struct{}{}
	}
	for _, p := range trees.Programs(2000) {
		hold(p)
	}
	for seed, p := range trees.Runnables(6000) {
		hold(spoiled(trees.NewMaker(uint64(seed)), p))
	}
	if count[api.OK] < 1000 || count[api.ErrLong] < 500 || count[api.ErrName] < 1000 || count[api.ErrOrder] < 100 || count[api.ErrKind] < 100 || len(places) < 40 {
		t.Error("the programs themselves", count, len(places))
	}
}
