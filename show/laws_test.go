package show_test

// Tests of P5.2: texts are read as what they were told of. And of what holds of every text.

import (
	"strings"
	"testing"

	"cantilever/api"
	"cantilever/ast"
	"cantilever/lex"
	"cantilever/parse"
	"cantilever/show"
	"cantilever/trees"
)

func wantProgramBack(t *testing.T, p api.Program) {
	t.Helper()
	s, err := show.Program(p)
	got, fault := parse.Parse(s)
	if err != api.OK || fault != (api.Fault{}) || !ast.Same(got, p) {
		t.Errorf("%.1000q, %d is read as %s, %v, not %s", s, err, brief(got), fault, brief(p))
	}
}

func wantExprBack(t *testing.T, e api.Expr) {
	t.Helper()
	s, err := show.Expr(e)
	got, fault := parse.Expr(s)
	if err != api.OK || fault != (api.Fault{}) || !ast.SameExpr(got, e) {
		t.Errorf("%.1000q, %d is read as %s, %v, not %s", s, err, brief(got), fault, brief(e))
	}
}

func wantStmtBack(t *testing.T, s api.Stmt) {
	t.Helper()
	text, err := show.Stmt(s)
	got, fault := parse.Stmts(text)
	if err != api.OK || fault != (api.Fault{}) || !ast.Same(thread(got...), thread(s)) {
		t.Errorf("%.1000q, %d is read as %s, %v, not %s", text, err, brief(got), fault, brief(s))
	}
}

func TestReadAgain(t *testing.T) {
	for _, p := range trees.Programs(4000) {
		wantProgramBack(t, p)
		for _, l := range p.Threads {
			for _, s := range l {
				wantStmtBack(t, s)
			}
		}
	}
	for seed := range uint64(6000) {
		if e := trees.NewMaker(seed).Expr(8); ast.CheckExpr(e) == api.OK {
			wantExprBack(t, e)
			wantStmtBack(t, assert(e))
		}
	}
}

// All expressions of three signs, however they stand in one another.
func TestThreeSignsReadAgain(t *testing.T) {
	a, b, c, d := reg("a"), reg("b"), num(0), reg("d")
	for x := api.OpNeg; x <= api.OpTimes; x++ {
		for y := api.OpNeg; y <= api.OpTimes; y++ {
			for z := api.OpNeg; z <= api.OpTimes; z++ {
				wantExprBack(t, over(x, over(y, over(z, a, b), c), d))
				wantExprBack(t, over(x, over(y, c, over(z, a, b)), d))
				wantExprBack(t, over(x, d, over(y, over(z, a, b), c)))
				wantExprBack(t, over(x, d, over(y, c, over(z, a, b))))
				wantExprBack(t, over(x, over(y, a, b), over(z, c, d)))
			}
		}
	}
}

// over is an expression of two, or of the greater one of these.
func over(o int, e, f api.Expr) api.Expr {
	if o <= api.OpNot {
		if len(e.Kids) > len(f.Kids) {
			return op(o, e)
		}
		return op(o, f)
	}
	return op(o, e, f)
}

// At the limits of a tree its text has as many brackets open at once as it can have.
func TestTheGreatestReadAgain(t *testing.T) {
	wantExprBack(t, bush(maxSize))
	wantExprBack(t, chain(maxNest))
	wantStmtBack(t, assume(bush(maxSize-1)))
	wantProgramBack(t, thread(fences(maxSize)...))
	deep := reg("a")
	for i := range maxNest - 1 {
		deep = []api.Expr{op(api.OpMinus, num(1), deep), op(api.OpNeg, deep), op(api.OpTimes, deep, num(2))}[i%3]
	}
	wantExprBack(t, deep)
	for n := range maxNest - 1 {
		within := reg("a")
		for range n {
			within = op(api.OpPlus, num(1), within)
		}
		s := api.Stmt{Kind: api.StAssert, Exprs: []api.Expr{within}}
		for range maxNest - 2 - n {
			s = choice(num(1), nil, list(s))
		}
		wantStmtBack(t, s)
		wantProgramBack(t, thread(s, s))
	}
}

// A text may be longer than one that can be read: it is told all the same.
func TestTextsTooLongToRead(t *testing.T) {
	at := strings.Repeat("x", maxText-len("shared  = 0;\n"))
	wantProgram(t, api.Program{Decls: []api.Decl{{Name: at}}}, "shared "+at+" = 0;\n")
	wantProgramBack(t, api.Program{Decls: []api.Decl{{Name: at}}})
	wantProgram(t, api.Program{Decls: []api.Decl{{Name: at + "x"}}}, "shared "+at+"x = 0;\n")
	name := strings.Repeat("y", maxText)
	wantExpr(t, reg(name), name)
	wantExprBack(t, reg(name))
	wantExpr(t, reg(name+"y"), name+"y")
	wantStmt(t, access(2, name, name, 2), name+" = load("+name+", rlx);\n")
	wantProgram(t, thread(set(name, reg(name))), "thread {\n  "+name+" = "+name+";\n}\n")
	long := assume(op(api.OpPlus, reg(name), reg(name)))
	got, err := show.Program(thread(choice(num(1), nil, []api.Stmt{long, long})))
	if line := "    assume(" + name + " + " + name + ");\n"; err != 0 || got != "thread {\n  if (1) {\n  } else {\n"+line+line+"  }\n}\n" {
		t.Errorf("%.100q, %d", got, err)
	}
}

// A text is the one form of its tree: whatever is read as this is told as that.
func TestOneForm(t *testing.T) {
	for _, p := range trees.Programs(500) {
		s, _ := show.Program(p)
		for _, other := range []string{s, trees.ProgramText(p), strings.ReplaceAll(s, " ", "\t // so\n"), strings.ReplaceAll(s, "\n", " ")} {
			again, fault := parse.Parse(other)
			if fault != (api.Fault{}) {
				t.Errorf("%q: %v", other, fault)
			}
			wantProgram(t, again, s)
		}
	}
}

// The lines of each text: none is empty, none has a blank at its end, or two within; each stands as far in as brackets are open.
func TestLines(t *testing.T) {
	for _, p := range trees.Programs(1500) {
		s, _ := show.Program(p)
		if s == "" {
			continue
		}
		lines, whole := strings.CutSuffix(s, "\n")
		if !whole {
			t.Errorf("%q has no end", s)
		}
		open := 0
		for line := range strings.SplitSeq(lines, "\n") {
			if strings.HasPrefix(strings.TrimLeft(line, " "), "}") {
				open--
			}
			told, in := strings.CutPrefix(line, strings.Repeat("  ", open))
			if !in || told == "" || strings.TrimSpace(told) != told || strings.Contains(told, "  ") || !strings.ContainsAny(told[len(told)-1:], ";{}") {
				t.Errorf("%q in %q", line, s)
			}
			if strings.HasSuffix(line, "{") {
				open++
			}
		}
	}
}

// A statement in a program has the lines that it has by itself, further in.
func TestStmtsInPrograms(t *testing.T) {
	for _, p := range trees.Programs(500) {
		for _, l := range p.Threads {
			var b strings.Builder
			for _, s := range l {
				lines, _ := show.Stmt(s)
				for line := range strings.Lines(lines) {
					b.WriteString("  " + line)
				}
			}
			wantProgram(t, thread(l...), "thread {\n"+b.String()+"}\n")
		}
	}
}

// Each order's keyword and each Op's sign is a token of its own, which is read as it.
func TestOrdersAndSignsReadAgain(t *testing.T) {
	for o := api.OrdNa; o <= api.OrdSc; o++ {
		l, fault := parse.Stmts("fence(" + show.Order(o) + ");")
		if kind, ok := lex.Word(show.Order(o)); fault != (api.Fault{}) || l[0].Order != o || !ok || kind != api.TokKey {
			t.Error(o, show.Order(o), fault)
		}
	}
	for o := api.OpNeg; o <= api.OpTimes; o++ {
		s := show.Sign(o) + "a"
		if o > api.OpNot {
			s = "a" + s
		}
		if e, fault := parse.Expr(s); fault != (api.Fault{}) || e.Op != o {
			t.Error(o, s, fault)
		}
	}
}
