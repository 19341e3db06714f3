package show_test

// Tests of P5.1: Program, Stmt and Order, and the lines of their texts.

import (
	"math"
	"strings"
	"testing"

	"cantilever/api"
	"cantilever/show"
	"cantilever/trees"
)

// inAll holds a statement's lines against those that Stmt and Program tell, in each place where it can stand.
func inAll(t *testing.T, s api.Stmt, lines ...string) {
	t.Helper()
	in, further := text(shifted(1, lines)...), text(shifted(2, lines)...)
	a := reg("a")
	wantStmt(t, s, text(lines...))
	wantStmt(t, choice(a, list(s), nil), "if (a) {\n"+in+"}\n")
	wantStmt(t, choice(a, nil, list(s)), "if (a) {\n} else {\n"+in+"}\n")
	wantStmt(t, choice(a, list(s), list(s)), "if (a) {\n"+in+"} else {\n"+in+"}\n")
	wantStmt(t, loop(a, s), "while (a) {\n"+in+"}\n")
	wantStmt(t, loop(a, s, s), "while (a) {\n"+in+in+"}\n")
	wantStmt(t, loop(a, loop(a, s), s), "while (a) {\n  while (a) {\n"+further+"  }\n"+in+"}\n")
	wantProgram(t, thread(s), "thread {\n"+in+"}\n")
	wantProgram(t, thread(s, fence(6), s), "thread {\n"+in+"  fence(sc);\n"+in+"}\n")
	wantProgram(t, thread(loop(a, s), s), "thread {\n  while (a) {\n"+further+"  }\n"+in+"}\n")
	wantProgram(t, api.Program{Threads: [][]api.Stmt{{s}, {}, {s}}}, "thread {\n"+in+"}\nthread {\n}\nthread {\n"+in+"}\n")
}

// shifted are lines that stand in so many blocks more.
func shifted(n int, lines []string) []string {
	var l []string
	for _, line := range lines {
		l = append(l, strings.Repeat("  ", n)+line)
	}
	return l
}

func TestEachKind(t *testing.T) {
	a, sum := reg("a"), op(api.OpPlus, reg("b"), num(1))
	inAll(t, set("r", num(0)), "r = 0;")
	inAll(t, set("r", sum), "r = b + 1;")
	inAll(t, access(2, "r", "x", 3), "r = load(x, acq);")
	inAll(t, access(3, "", "x", 4, sum), "store(x, b + 1, rel);")
	inAll(t, access(4, "r", "x", 5, sum, a), "r = cas(x, b + 1, a, ar);")
	inAll(t, access(4, "r", "x", 5, a, op(4, sum)), "r = cas(x, a, !(b + 1), ar);")
	inAll(t, access(5, "r", "x", 2, sum), "r = add(x, b + 1, rlx);")
	inAll(t, access(6, "r", "x", 1, op(3, a)), "r = swap(x, -a, na);")
	inAll(t, fence(6), "fence(sc);")
	inAll(t, assume(sum), "assume(b + 1);")
	inAll(t, assert(op(4, a)), "assert(!a);")
	inAll(t, choice(sum, nil, nil), "if (b + 1) {", "}")
	inAll(t, choice(a, list(), list()), "if (a) {", "}")
	inAll(t, choice(op(4, a), list(fence(3)), nil), "if (!a) {", "  fence(acq);", "}")
	inAll(t, choice(num(1), nil, list(fence(3))), "if (1) {", "} else {", "  fence(acq);", "}")
	inAll(t, choice(a, list(fence(2), fence(3)), list(fence(4), fence(5))),
		"if (a) {", "  fence(rlx);", "  fence(acq);", "} else {", "  fence(rel);", "  fence(ar);", "}")
	inAll(t, loop(sum), "while (b + 1) {", "}")
	inAll(t, loop(op(4, a), set("a", num(1))), "while (!a) {", "  a = 1;", "}")
}

// Around an expression that stands in a statement no brackets stand but the statement's own.
func TestExprsInStmts(t *testing.T) {
	e := op(api.OpOr, reg("a"), op(api.OpAnd, op(api.OpOr, reg("b"), num(1)), op(api.OpNot, reg("c"))))
	is := "a || (b || 1) && !c"
	wantExpr(t, e, is)
	inAll(t, set("r", e), "r = "+is+";")
	inAll(t, access(3, "", "x", 4, e), "store(x, "+is+", rel);")
	inAll(t, access(4, "r", "x", 6, e, e), "r = cas(x, "+is+", "+is+", sc);")
	inAll(t, access(5, "r", "x", 6, e), "r = add(x, "+is+", sc);")
	inAll(t, access(6, "r", "x", 6, e), "r = swap(x, "+is+", sc);")
	inAll(t, assume(e), "assume("+is+");")
	inAll(t, assert(e), "assert("+is+");")
	inAll(t, choice(e, nil, nil), "if ("+is+") {", "}")
	inAll(t, loop(e), "while ("+is+") {", "}")
}

func TestEachOrder(t *testing.T) {
	for order, name := range trees.Orders() {
		if order == 0 {
			continue
		}
		inAll(t, access(2, "r", "x", order), "r = load(x, "+name+");")
		inAll(t, access(3, "", "x", order, num(1)), "store(x, 1, "+name+");")
		inAll(t, access(4, "r", "x", order, num(1), num(2)), "r = cas(x, 1, 2, "+name+");")
		inAll(t, access(5, "r", "x", order, num(1)), "r = add(x, 1, "+name+");")
		inAll(t, access(6, "r", "x", order, num(1)), "r = swap(x, 1, "+name+");")
		inAll(t, fence(order), "fence("+name+");")
	}
}

// The names of registers and locations are told as they are, also those that begin as keywords do.
func TestNames(t *testing.T) {
	for _, name := range []string{"x", "Load", "loads", "if_", "r_1", "Z9", "sharedplain", strings.Repeat("ab_9", 300)} {
		inAll(t, access(2, name, "y", 2), name+" = load(y, rlx);")
		inAll(t, access(2, "y", name, 2), "y = load("+name+", rlx);")
		inAll(t, set(name, reg(name)), name+" = "+name+";")
		wantProgram(t, api.Program{Decls: []api.Decl{{Name: name}}}, "shared "+name+" = 0;\n")
	}
}

// Ifs and whiles within one another; an Else of one if alone is told as any other one.
func TestBlocksInBlocks(t *testing.T) {
	a, b := reg("a"), reg("b")
	inAll(t, choice(a, nil, list(choice(b, nil, nil))), "if (a) {", "} else {", "  if (b) {", "  }", "}")
	inAll(t, choice(a, list(fence(6)), list(choice(b, list(fence(5)), list(fence(4))))),
		"if (a) {", "  fence(sc);", "} else {", "  if (b) {", "    fence(ar);", "  } else {", "    fence(rel);", "  }", "}")
	inAll(t, choice(a, nil, list(choice(b, nil, list(choice(a, nil, list(choice(b, nil, nil))))))),
		"if (a) {", "} else {", "  if (b) {", "  } else {", "    if (a) {", "    } else {", "      if (b) {", "      }", "    }", "  }", "}")
	inAll(t, choice(a, list(choice(b, nil, nil)), nil), "if (a) {", "  if (b) {", "  }", "}")
	inAll(t, choice(a, list(choice(b, nil, list(fence(1)))), nil), "if (a) {", "  if (b) {", "  } else {", "    fence(na);", "  }", "}")
	inAll(t, choice(a, list(loop(b)), list(loop(a), loop(b))), "if (a) {", "  while (b) {", "  }", "} else {", "  while (a) {", "  }", "  while (b) {", "  }", "}")
	inAll(t, loop(a, choice(b, nil, nil), loop(b, loop(a))), "while (a) {", "  if (b) {", "  }", "  while (b) {", "    while (a) {", "    }", "  }", "}")
	inAll(t, loop(a, choice(b, list(loop(a, set("a", b))), list(set("b", a))), set("a", a)),
		"while (a) {", "  if (b) {", "    while (a) {", "      a = b;", "    }", "  } else {", "    b = a;", "  }", "  a = a;", "}")
}

// Each statement in each block of the deepest nest.
func TestTheFurthestIn(t *testing.T) {
	for _, around := range []func(api.Stmt) api.Stmt{
		func(s api.Stmt) api.Stmt { return choice(num(1), list(s), nil) },
		func(s api.Stmt) api.Stmt { return loop(num(1), s) },
	} {
		s := fence(6)
		for range maxNest - 1 {
			s = around(s)
		}
		got, err := show.Stmt(s)
		lines := strings.Split(got, "\n")
		if err != 0 || len(lines) != 2*maxNest || lines[maxNest-1] != strings.Repeat("  ", maxNest-1)+"fence(sc);" {
			t.Errorf("%q, %d", got, err)
		}
		want(t, "Stmt", s, got, err, plainStmt(s), 0)
	}
}

func TestLocations(t *testing.T) {
	wantProgram(t, api.Program{Decls: []api.Decl{{Name: "x"}}}, "shared x = 0;\n")
	wantProgram(t, api.Program{Decls: []api.Decl{{Name: "x", Plain: true}}}, "plain x = 0;\n")
	wantProgram(t, api.Program{Decls: []api.Decl{{Name: "x", Value: 7}}}, "shared x = 7;\n")
	wantProgram(t, api.Program{Decls: []api.Decl{{Name: "x", Plain: true, Value: 10}}}, "plain x = 10;\n")
	many := []api.Decl{{Name: "b", Value: 1}, {Name: "a", Plain: true}, {Name: "c"}, {Name: "b", Plain: true, Value: math.MaxInt64}, {Name: "b", Value: 1}}
	lines := "shared b = 1;\nplain a = 0;\nshared c = 0;\nplain b = 9223372036854775807;\nshared b = 1;\n"
	wantProgram(t, api.Program{Decls: many}, lines)
	wantProgram(t, api.Program{Decls: many, Threads: [][]api.Stmt{{}}}, lines+"thread {\n}\n")
	wantProgram(t, api.Program{Decls: many, Threads: [][]api.Stmt{{fence(6)}, {fence(5)}}}, lines+"thread {\n  fence(sc);\n}\nthread {\n  fence(ar);\n}\n")
}

func TestProgramsWithLittleInThem(t *testing.T) {
	wantProgram(t, api.Program{}, "")
	wantProgram(t, api.Program{Decls: []api.Decl{}, Threads: [][]api.Stmt{}}, "")
	wantProgram(t, api.Program{Threads: [][]api.Stmt{nil}}, "thread {\n}\n")
	wantProgram(t, api.Program{Threads: [][]api.Stmt{nil, {}, nil}}, "thread {\n}\nthread {\n}\nthread {\n}\n")
	wantProgram(t, api.Program{Decls: []api.Decl{{Name: "x"}}, Threads: [][]api.Stmt{}}, "shared x = 0;\n")
	// There is no limit to how many locations and threads are told.
	var p api.Program
	for range 5000 {
		p.Decls = append(p.Decls, api.Decl{Name: "x"})
		p.Threads = append(p.Threads, nil)
	}
	wantProgram(t, p, strings.Repeat("shared x = 0;\n", 5000)+strings.Repeat("thread {\n}\n", 5000))
}

func TestOrder(t *testing.T) {
	want := map[int]string{1: "na", 2: "rlx", 3: "acq", 4: "rel", 5: "ar", 6: "sc"}
	for o := -300; o < 300; o++ {
		if got := show.Order(o); got != want[o] {
			t.Errorf("Order of %d: %q", o, got)
		}
	}
	for _, o := range []int{math.MinInt, math.MinInt + 1, -1 << 32, -1<<32 + 1, 1 << 32, 1<<32 + 1, 1<<16 + 2, math.MaxInt} {
		if got := show.Order(o); got != "" {
			t.Errorf("Order of %d: %q", o, got)
		}
	}
}

func TestProgramsOfAnyShape(t *testing.T) {
	for _, p := range trees.Programs(1500) {
		wantProgram(t, p, plainProgram(p))
		for _, l := range p.Threads {
			for _, s := range l {
				wantStmt(t, s, plainStmt(s))
			}
		}
	}
}

func TestChaptersExamples(t *testing.T) {
	a, b, c, r := reg("a"), reg("b"), reg("c"), reg("r")
	wantExpr(t, op(api.OpMinus, op(api.OpMinus, a, b), c), "a - b - c")
	wantExpr(t, op(api.OpMinus, a, op(api.OpMinus, b, c)), "a - (b - c)")
	wantExpr(t, op(api.OpNot, op(api.OpEq, a, b)), "!(a == b)")
	wantExpr(t, op(api.OpNeg, op(api.OpNeg, a)), "--a")
	wantExpr(t, op(api.OpAnd, op(api.OpOr, a, b), c), "(a || b) && c")
	p := thread(access(api.StLoad, "r", "x", api.OrdAcq),
		choice(op(api.OpEq, r, num(1)), list(access(api.StStore, "", "x", api.OrdRel, op(api.OpPlus, r, num(1)))), nil))
	p.Decls = []api.Decl{{Name: "x"}}
	wantProgram(t, p, text("shared x = 0;", "thread {", "  r = load(x, acq);", "  if (r == 1) {", "    store(x, r + 1, rel);", "  }", "}"))
}
