package parse_test

// Tests of P4.2: blanks and remarks between tokens change nothing but places.

import (
	"slices"
	"strings"
	"testing"

	"cantilever/api"
	"cantilever/ast"
	"cantilever/lex"
	"cantilever/parse"
	"cantilever/trees"
)

// close puts these tokens together with no blank where they stay the same without.
func close(l []string) string {
	var b strings.Builder
	for i, text := range l {
		if i > 0 && !slices.Equal(texts(l[i-1]+text), []string{l[i-1], text}) {
			b.WriteByte(' ')
		}
		b.WriteString(text)
	}
	return b.String()
}

// apart puts blanks, line ends and remarks between these tokens, ahead of the first one and behind the last one.
func apart(l []string, m *trees.Maker) string {
	gaps := []string{" ", "\t", "\n", "\r\n", "  ", "//\n", " // r = 1; } # 01\n", "// (((\n\n\t"}
	var b strings.Builder
	for _, text := range l {
		b.WriteString(gaps[m.Below(len(gaps))] + text)
	}
	b.WriteString(gaps[m.Below(len(gaps))] + "// the end {")
	return b.String()
}

// place is the place of the token of t that stands where that of s at this place does.
func place(s, t string, at int) int {
	from, _ := lex.All(s)
	to, _ := lex.All(t)
	i := slices.IndexFunc(from, func(token api.Token) bool { return token.At == at })
	return to[i].At
}

// wantAlike holds what is told of two texts with the same tokens against one another.
func wantAlike(t *testing.T, s, other string) {
	t.Helper()
	if !slices.Equal(texts(s), texts(other)) {
		t.Fatalf("%q, %q: the tokens themselves", s, other)
	}
	p, inP := parse.Parse(s)
	e, inE := parse.Expr(s)
	l, inL := parse.Stmts(s)
	p2, inP2 := parse.Parse(other)
	e2, inE2 := parse.Expr(other)
	l2, inL2 := parse.Stmts(other)
	if !ast.Same(p, p2) || !ast.SameExpr(e, e2) || !sameStmts(l, l2) {
		t.Errorf("%q is not read as %q", other, s)
	}
	for _, pair := range [][2]api.Fault{{inP, inP2}, {inE, inE2}, {inL, inL2}} {
		want := pair[0]
		if want.Err == api.ErrSyntax || want.At > 0 {
			want.At = place(s, other, want.At)
		}
		if pair[1] != want {
			t.Errorf("%q: %v, not %v as of %q", other, pair[1], want, s)
		}
	}
}

func TestBlanksAndRemarksChangeOnlyPlaces(t *testing.T) {
	long := strings.Repeat("(", maxOpen+1)
	texts := slices.Concat(samples(), []string{"a + - b", "a < = b", "( a", "thread { if ( a ) { } else } ", "a - - - a", "; ;",
		strings.Join(strings.Split(long, ""), " "), "r = 1 ; s = - 2 ;", "if ( a ) { }", "r = a || b"})
	for _, p := range programs()[:200] {
		texts = append(texts, programText(p))
	}
	for i, s := range texts {
		l := strings.Fields(s)
		m := newMaker(uint64(i))
		wantAlike(t, s, close(l))
		wantAlike(t, s, apart(l, m))
		for k := range 3 {
			if len(l) > 0 {
				l[m.Below(len(l))] = things()[m.Below(len(things()))]
			}
			broken := strings.Join(l, " ")
			wantAlike(t, broken, close(l))
			if k > 0 {
				wantAlike(t, broken, apart(l, m))
			}
		}
	}
}

// A text told again by lex.Join of its tokens is read as it was.
func TestJoinedTexts(t *testing.T) {
	for _, s := range samples() {
		l, _ := lex.All(close(strings.Fields(s)))
		wantAlike(t, s, lex.Join(l))
	}
	wantProgram(t, "shared x;thread{r=load(x,acq);}", chapter())
	wantProgram(t, "\n\tshared//a\nx\r;//;\nthread\n{r\n=\nload\t( x,acq )\n;}// }", chapter())
	wantFault(t, "thread\n{\n\tr = ; // so\n}", 5, 14)
	wantFault(t, "sharedx;", 5, 0)
	wantFault(t, "shared x;thread{r1=load(x,acq)}", 5, 30)
	wantFault(t, "shared x;thread{r 1=load(x,acq);}", 5, 18)
	wantExpr(t, "a//+\n+//b\nc", op(14, reg("a"), reg("c")))
	wantExpr(t, "a&&b", op(6, reg("a"), reg("b")))
	wantExprFault(t, "a& &b", 5, 3)
	wantExprFault(t, "a< =b", 5, 3)
	wantExpr(t, "a<=b", op(10, reg("a"), reg("b")))
	wantExpr(t, "! !a", op(4, op(4, reg("a"))))
	wantExprFault(t, "a! =b", 5, 1)
}

// chapter is the program of the chapter's example.
func chapter() api.Program {
	p := thread(access(2, "r", "x", 3))
	p.Decls = []api.Decl{{Name: "x"}}
	return p
}
