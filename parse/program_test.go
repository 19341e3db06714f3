package parse_test

// Tests of P4.1: the rules of programs and statements.

import (
	"math"
	"strings"
	"testing"

	"cantilever/api"
	"cantilever/parse"
)

// The numbers as the document's sections 'Limits' and 'Kinds' tell them.
func TestNumbersOfTheDocument(t *testing.T) {
	if api.MaxOpen != maxOpen || api.MaxText != maxText || api.MaxSize != maxSize || api.MaxNest != maxNest ||
		api.OK != 0 || api.ErrLong != 3 || api.ErrLex != 4 || api.ErrSyntax != 5 ||
		api.OpNum != 1 || api.OpTimes != 16 || api.StSet != 1 || api.StWhile != 11 || api.OrdNa != 1 || api.OrdSc != 6 {
		t.Error("package api")
	}
}

func TestExamples(t *testing.T) {
	p := thread(access(2, "r", "x", 3))
	p.Decls = []api.Decl{{Name: "x"}}
	wantProgram(t, "shared x; thread { r = load(x, acq); }", p)
	a, b, c, d := reg("a"), reg("b"), reg("c"), reg("d")
	wantExpr(t, "a + b * c == 1 || !d", op(5, op(7, op(14, a, op(16, b, c)), num(1)), op(4, d)))
	wantFault(t, "thread { r = ; }", 5, 13)
	wantFault(t, "shared x = -1;", 5, 11)
}

func TestProgramsOfLittle(t *testing.T) {
	for _, s := range []string{"", " \n\t\r", "// a remark", "\n//\n"} {
		wantProgram(t, s, api.Program{})
		wantStmts(t, s)
		wantExprFault(t, s, 5, len(s))
	}
	wantProgram(t, "thread {}", thread())
	wantProgram(t, "thread{}thread{}thread{}", api.Program{Threads: make([][]api.Stmt, 3)})
	wantProgram(t, "shared x;", api.Program{Decls: []api.Decl{{Name: "x"}}})
	wantProgram(t, "plain x;", api.Program{Decls: []api.Decl{{Name: "x", Plain: true}}})
}

func TestDecls(t *testing.T) {
	wantProgram(t, "shared x, y = 3, z = 0; plain d = 9223372036854775807, e; shared x;", api.Program{Decls: []api.Decl{
		{Name: "x"}, {Name: "y", Value: 3}, {Name: "z"}, {Name: "d", Plain: true, Value: math.MaxInt64}, {Name: "e", Plain: true}, {Name: "x"}}})
	wantFault(t, "shared", 5, 6)
	wantFault(t, "shared;", 5, 6)
	wantFault(t, "shared x", 5, 8)
	wantFault(t, "shared x y;", 5, 9)
	wantFault(t, "shared x =;", 5, 10)
	wantFault(t, "shared x = ", 5, 11)
	wantFault(t, "shared x = y;", 5, 11)
	wantFault(t, "shared x = (1);", 5, 11)
	wantFault(t, "plain x = 1 + 1;", 5, 12)
	wantFault(t, "plain x = 1 2;", 5, 12)
	wantFault(t, "plain x == 1;", 5, 8)
	wantFault(t, "plain x,;", 5, 8)
	wantFault(t, "plain ,x;", 5, 6)
	wantFault(t, "plain x,,y;", 5, 8)
	wantFault(t, "plain x;;", 5, 8)
	wantFault(t, "plain 1;", 5, 6)
	wantFault(t, "shared plain x;", 5, 7)
	wantFault(t, "x = 1;", 5, 0)
	wantFault(t, "shared (x);", 5, 7)
}

// Declarations and threads stand in any order; those of each sort keep theirs.
func TestDeclsBehindThreads(t *testing.T) {
	wantProgram(t, "thread { fence(sc); } shared x; thread { } plain y = 1; thread { a = 1; b = 2; }", api.Program{
		Decls:   []api.Decl{{Name: "x"}, {Name: "y", Plain: true, Value: 1}},
		Threads: [][]api.Stmt{{fence(6)}, nil, {set("a", num(1)), set("b", num(2))}}})
	wantFault(t, "thread { shared x; }", 5, 9)
	wantFault(t, "thread { thread { } }", 5, 9)
}

func TestThreads(t *testing.T) {
	wantFault(t, "thread", 5, 6)
	wantFault(t, "thread x", 5, 7)
	wantFault(t, "thread { ", 5, 9)
	wantFault(t, "thread { r = 1; ", 5, 16)
	wantFault(t, "thread } ", 5, 7)
	wantFault(t, "thread { } }", 5, 11)
	wantFault(t, "thread { } ;", 5, 11)
	wantFault(t, "thread ( )", 5, 7)
	wantFault(t, "thread thread { }", 5, 7)
	wantFault(t, "{ }", 5, 0)
	wantFault(t, "r = 1;", 5, 0)
	wantFault(t, "if (a) { }", 5, 0)
	wantFault(t, "fence(sc);", 5, 0)
	wantFault(t, "thread { { } }", 5, 9)
	wantFault(t, "thread { ; }", 5, 9)
}

// Each statement as the chapter on trees tells it, in each place where one may stand.
func TestStmts(t *testing.T) {
	e, f := op(14, reg("a"), num(1)), op(4, reg("b"))
	for text, s := range map[string]api.Stmt{
		"r = a + 1;":                     set("r", e),
		"r = r;":                         set("r", reg("r")),
		"r = load(x, acq);":              access(2, "r", "x", 3),
		"r = load(r, na);":               access(2, "r", "r", 1),
		"store(x, a + 1, rel);":          access(3, "", "x", 4, e),
		"store(x, 0, na);":               access(3, "", "x", 1, num(0)),
		"r = cas(x, a + 1, !b, ar);":     access(4, "r", "x", 5, e, f),
		"r = cas(x, 0, 1, sc);":          access(4, "r", "x", 6, num(0), num(1)),
		"r = add(x, a + 1, rlx);":        access(5, "r", "x", 2, e),
		"r = swap(x, !b, rel);":          access(6, "r", "x", 4, f),
		"fence(sc);":                     fence(6),
		"fence(na);":                     fence(1),
		"assume(a + 1);":                 assume(e),
		"assert(!b);":                    assert(f),
		"if (a + 1) { }":                 choice(e, nil, nil),
		"if (!b) { } else { }":           choice(f, nil, nil),
		"if (!b) { fence(ar); }":         choice(f, []api.Stmt{fence(5)}, nil),
		"if (!b) { } else { fence(ar);}": choice(f, nil, []api.Stmt{fence(5)}),
		"while (a + 1) { r = 1; s = 2;}": loop(e, set("r", num(1)), set("s", num(2))),
		"while (!b) { }":                 loop(f),
	} {
		l := []api.Stmt{s}
		wantStmts(t, text, s)
		wantStmts(t, text+text, s, s)
		wantStmts(t, "fence(rlx);"+text+"fence(rlx);", fence(2), s, fence(2))
		wantStmts(t, "if(a){"+text+"}", choice(reg("a"), l, nil))
		wantStmts(t, "if(a){}else{"+text+"}", choice(reg("a"), nil, l))
		wantStmts(t, "while(a){"+text+"}", loop(reg("a"), s))
		wantProgram(t, "thread{"+text+"}", thread(s))
		wantFault(t, text, 5, 0)
		wantStmtsFault(t, text+"}", 5, len(text))
		wantStmtsFault(t, text+";", 5, len(text))
	}
}

func TestOrders(t *testing.T) {
	for order, name := range orders() {
		if order > 0 {
			wantStmts(t, "r = load(x,"+name+");", access(2, "r", "x", order))
			wantStmts(t, "store(x,1,"+name+");", access(3, "", "x", order, num(1)))
			wantStmts(t, "r = cas(x,1,2,"+name+");", access(4, "r", "x", order, num(1), num(2)))
			wantStmts(t, "r = add(x,1,"+name+");", access(5, "r", "x", order, num(1)))
			wantStmts(t, "r = swap(x,1,"+name+");", access(6, "r", "x", order, num(1)))
			wantStmts(t, "fence("+name+");", fence(order))
		}
	}
	for _, s := range []string{"relaxed", "sq", "SC", "Acq", "none", "x", "1", "load", "(sc)", "-", ""} {
		wantStmtsFault(t, "fence("+s+");", 5, 6)
		wantStmtsFault(t, "r = load(x,"+s+");", 5, 11)
		wantStmtsFault(t, "store(x,1,"+s+");", 5, 10)
	}
	// An order stands nowhere else.
	wantStmtsFault(t, "r = sc;", 5, 4)
	wantStmtsFault(t, "assume(rlx);", 5, 7)
	wantStmtsFault(t, "store(x,acq,rel);", 5, 8)
	wantStmtsFault(t, "na = 1;", 5, 0)
}

// A keyword stands nowhere where a word must stand.
func TestKeywordsAreNoWords(t *testing.T) {
	for _, k := range keywords() {
		wantFault(t, "shared "+k+";", 5, 7)
		wantFault(t, "plain x, "+k+" = 1;", 5, 9)
		wantStmtsFault(t, "r = load("+k+", acq);", 5, 9)
		wantStmtsFault(t, "store("+k+", 1, acq);", 5, 6)
		wantStmtsFault(t, "r = cas("+k+", 1, 2, acq);", 5, 8)
		wantExprFault(t, k, 5, 0)
		wantExprFault(t, "a + "+k, 5, 4)
		wantExprFault(t, "-"+k, 5, 1)
		if !strings.Contains(" store fence assume assert if while ", " "+k+" ") {
			wantStmtsFault(t, k+" = 1;", 5, 0)
		} else {
			wantStmtsFault(t, k+" = 1;", 5, len(k)+1)
		}
		// But with something more it is a word.
		wantStmts(t, k+"_ = load("+k+"1, acq);", access(2, k+"_", k+"1", 3))
	}
}

func TestPartsOfStmts(t *testing.T) {
	for _, c := range []struct {
		s  string
		at int
	}{
		{"r", 1}, {"r;", 1}, {"r = ", 4}, {"r = 1", 5}, {"r = 1 s = 2;", 6}, {"r == 1;", 2}, {"r = s = 1;", 6}, {"r = = 1;", 4},
		{"1 = r;", 0}, {"(r) = 1;", 0}, {"r, s = 1;", 1}, {"r = 1, 2;", 5}, {"r += 1;", 2},
		{"load(x, acq);", 0}, {"r = load;", 8}, {"r = load x;", 9}, {"r = load(x);", 10}, {"r = load(x acq);", 11}, {"r = load(acq);", 9},
		{"r = load(x,);", 11}, {"r = load(x, acq;", 15}, {"r = load(x, acq, acq);", 15}, {"r = load(x, 1, acq);", 12}, {"r = load(1, acq);", 9},
		{"r = load((x), acq);", 9}, {"r = load(x, acq) + 1;", 17}, {"r = 1 + load(x, acq);", 8}, {"r = (load(x, acq));", 5}, {"r = load(x + 1, acq);", 11},
		{"r = load(x, acq)", 16}, {"r = load(x, acq) }", 17}, {"r = -load(x, acq);", 5},
		{"r = store(x, 1, rel);", 4}, {"store(x, rel);", 9}, {"store(x, 1);", 10}, {"store(1, 1, rel);", 6}, {"store(x, 1, 2, rel);", 12},
		{"store(x, , rel);", 9}, {"store x, 1, rel;", 6}, {"store(x, 1, rel)", 16}, {"store(x 1, rel);", 8}, {"store(x, 1 rel);", 11}, {"store();", 6},
		{"cas(x, 1, 2, ar);", 0}, {"r = cas(x, 1, ar);", 14}, {"r = cas(x, 1, 2);", 15}, {"r = cas(x, 1, 2, 3, ar);", 17}, {"r = cas(x, 1 2, ar);", 13},
		{"add(x, 1, ar);", 0}, {"r = add(x, ar);", 11}, {"r = add(x, 1, 2, ar);", 14}, {"r = add(1);", 8}, {"swap(x, 1, ar);", 0}, {"r = swap(x);", 10},
		{"r = swap(x, 1, 2, ar);", 15}, {"r = swap(x, ar);", 12},
		{"fence;", 5}, {"fence();", 6}, {"fence sc;", 6}, {"fence(sc", 8}, {"fence(sc)", 9}, {"fence(sc, sc);", 8}, {"fence(x);", 6}, {"r = fence(sc);", 4},
		{"assume a;", 7}, {"assume();", 7}, {"assume(a", 8}, {"assume(a)", 9}, {"assume(a, b);", 8}, {"assert a;", 7}, {"assert();", 7}, {"assert(a) b;", 10},
		{"r = assume(a);", 4}, {"assume(a) { }", 10}, {"assume(a = 1);", 9}, {"assert(r = 1);", 9},
		{"if a { }", 3}, {"if () { }", 4}, {"if (a)", 6}, {"if (a) r = 1;", 7}, {"if (a) {", 8}, {"if (a) };", 7}, {"if (a { }", 6}, {"if { }", 3},
		{"if (a) { };", 10}, {"if (a, b) { }", 5},
		{"else { }", 0}, {"else if (a) { }", 0}, {"r = 1; else { }", 7}, {"while (a) { } else { }", 14}, {"if (a) { } else", 15}, {"if (a) { } else r = 1;", 16},
		{"if (a) { } else { } else { }", 20}, {"if (a) { } else else { }", 16}, {"if (a) else { }", 7}, {"if (a) { } else while (b) { }", 16},
		{"if (a) { } else (b) { }", 16}, {"if (a) { } else if { }", 19}, {"if (a) { } else if (b) { } else { } else { }", 36}, {"if (a) { } else if if (b) { }", 19},
		{"while a { }", 6}, {"while () { }", 7}, {"while (a)", 9}, {"while (a);", 9}, {"while (a) r = 1;", 10}, {"while (a) { r = 1 }", 18}, {"while (a) { ", 12},
		{"{ r = 1; }", 0}, {"}", 0}, {";", 0}, {"1;", 0}, {"r r = 1;", 2}, {"thread { }", 0}, {"shared x;", 0}, {"plain x;", 0},
	} {
		wantStmtsFault(t, c.s, 5, c.at)
		wantStmtsFault(t, "fence(sc);\n"+c.s, 5, 11+c.at)
		if c.at < len(c.s) && c.s[c.at] != '}' {
			wantFault(t, "thread { "+c.s+" }", 5, 9+c.at)
		}
	}
}

// An else if is an Else of that one statement, and no other statement stands behind it.
func TestElseIf(t *testing.T) {
	a, b, c := reg("a"), reg("b"), reg("c")
	one, two, three := []api.Stmt{set("r", num(1))}, []api.Stmt{set("r", num(2))}, []api.Stmt{set("r", num(3))}
	wantStmts(t, "if (a) { r = 1; } else if (b) { r = 2; }", choice(a, one, []api.Stmt{choice(b, two, nil)}))
	wantStmts(t, "if (a) { r = 1; } else if (b) { r = 2; } else { r = 3; }", choice(a, one, []api.Stmt{choice(b, two, three)}))
	wantStmts(t, "if (a) { r = 1; } else { if (b) { r = 2; } else { r = 3; } }", choice(a, one, []api.Stmt{choice(b, two, three)}))
	wantStmts(t, "if (a) { r = 1; } else { if (b) { r = 2; } } r = 3;", choice(a, one, []api.Stmt{choice(b, two, nil)}), three[0])
	wantStmts(t, "if (a) { r = 1; } else if (b) { r = 2; } r = 3;", choice(a, one, []api.Stmt{choice(b, two, nil)}), three[0])
	wantStmts(t, "if (a) { } else if (b) { } else if (c) { r = 1; } else { r = 2; } if (a) { } else { r = 3; }",
		choice(a, nil, []api.Stmt{choice(b, nil, []api.Stmt{choice(c, one, two)})}), choice(a, nil, three))
	// An else belongs to the if whose block ends just ahead of it.
	wantStmts(t, "if (a) { if (b) { } else { r = 1; } }", choice(a, []api.Stmt{choice(b, nil, one)}, nil))
	wantStmts(t, "if (a) { if (b) { } } else { r = 1; }", choice(a, []api.Stmt{choice(b, nil, nil)}, one))
	wantStmts(t, "if (a) { while (b) { } } else { r = 1; }", choice(a, []api.Stmt{loop(b)}, one))
}

// What each call reads is just that.
func TestTextsThatGoOn(t *testing.T) {
	wantExprFault(t, "a b", 5, 2)
	wantExprFault(t, "a;", 5, 1)
	wantExprFault(t, "a )", 5, 2)
	wantExprFault(t, "a + b }", 5, 6)
	wantExprFault(t, "(a) (b)", 5, 4)
	wantExprFault(t, "1 2", 5, 2)
	wantExprFault(t, "a = 1", 5, 2)
	wantExprFault(t, "a !b", 5, 2)
	wantExprFault(t, "a, b", 5, 1)
	wantExprFault(t, "thread { }", 5, 0)
	wantStmtsFault(t, "r = 1; }", 5, 7)
	wantStmtsFault(t, "r = 1; shared x;", 5, 7)
	wantStmtsFault(t, "r = 1; thread { }", 5, 7)
	wantStmtsFault(t, "r = 1; 2", 5, 7)
	wantStmtsFault(t, "if (a) { } }", 5, 11)
	wantFault(t, "shared x; thread { } r = 1;", 5, 21)
	wantFault(t, "thread { } 1", 5, 11)
}

// Names are taken as they stand, and told of the right things.
func TestNames(t *testing.T) {
	long := strings.Repeat("w", 30000)
	wantProgram(t, "shared "+long+"; thread { "+long[1:]+"=1; }", api.Program{
		Decls: []api.Decl{{Name: long}}, Threads: [][]api.Stmt{{set(long[1:], num(1))}}})
	// Whether a name is declared, or declared twice, is another layer's question.
	wantProgram(t, "shared x, x; plain x; thread { x = load(x, na); y = x; }", api.Program{
		Decls:   []api.Decl{{Name: "x"}, {Name: "x"}, {Name: "x", Plain: true}},
		Threads: [][]api.Stmt{{access(2, "x", "x", 1), set("y", reg("x"))}}})
	p, fault := parse.Parse("thread { }" + strings.Repeat("thread { }", 100))
	if fault != (api.Fault{}) || len(p.Threads) != 101 {
		t.Error("many threads", len(p.Threads), fault)
	}
}
