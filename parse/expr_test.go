package parse_test

// Tests of P4.1: the signs of expressions, how strong they are, and to which side they go.

import (
	"math"
	"strings"
	"testing"

	"cantilever/api"
)

func TestOperands(t *testing.T) {
	wantExpr(t, "a", reg("a"))
	wantExpr(t, "0", num(0))
	wantExpr(t, "9223372036854775807", num(math.MaxInt64))
	wantExpr(t, "(a)", reg("a"))
	wantExpr(t, "(((7)))", num(7))
	wantExpr(t, "\n( a )//so", reg("a"))
	for s, at := range map[string]int{"()": 1, "( )": 2, "(a": 2, "a)": 1, "(": 1, ")": 0, "((a)": 4, "(a))": 3, "(a b)": 3,
		"(a,b)": 2, "{a}": 0, "(a;)": 2, "(a}": 2, "a(": 1, "a (b)": 2, "1(": 1, "load(x, na)": 0} {
		wantExprFault(t, s, 5, at)
	}
}

// Each sign between two beside each other one: the stronger one first, of two as strong the left one.
func TestEachSignBesideEachOther(t *testing.T) {
	a, b, c := reg("a"), num(2), reg("c")
	for _, s := range betweens() {
		wantExpr(t, "a"+s.Sign+"2", op(s.Op, a, b))
		for _, r := range betweens() {
			want := op(r.Op, op(s.Op, a, b), c)
			if r.Strength > s.Strength {
				want = op(s.Op, a, op(r.Op, b, c))
			}
			wantExpr(t, "a "+s.Sign+" 2 "+r.Sign+" c", want)
			wantExpr(t, "a"+s.Sign+"2"+r.Sign+"c", want)
			wantExpr(t, "(a "+s.Sign+" 2) "+r.Sign+" c", op(r.Op, op(s.Op, a, b), c))
			wantExpr(t, "a "+s.Sign+" (2 "+r.Sign+" c)", op(s.Op, a, op(r.Op, b, c)))
			wantExpr(t, "(a) "+s.Sign+" (2) "+r.Sign+" (c)", want)
			wantExpr(t, "("+"a "+s.Sign+" 2 "+r.Sign+" c)", want)
		}
	}
}

func TestAllToTheLeft(t *testing.T) {
	for _, s := range betweens() {
		for _, r := range betweens() {
			if r.Strength != s.Strength {
				continue
			}
			want := op(s.Op, op(r.Op, op(s.Op, reg("a"), reg("b")), reg("c")), reg("d"))
			wantExpr(t, strings.Join([]string{"a", s.Sign, "b", r.Sign, "c", s.Sign, "d"}, " "), want)
		}
	}
	wantExpr(t, "8 - 4 - 2 - 1", op(15, op(15, op(15, num(8), num(4)), num(2)), num(1)))
	wantExpr(t, "a < b <= c < d", op(9, op(10, op(9, reg("a"), reg("b")), reg("c")), reg("d")))
	wantExpr(t, "a == b != c", op(8, op(7, reg("a"), reg("b")), reg("c")))
}

// From the weakest to the strongest and back.
func TestAllStrengths(t *testing.T) {
	a := reg("a")
	up, down := "a", "a"
	wantUp, wantDown := a, a
	for _, sign := range []string{"*", "+", "&", "^", "|", "<", "==", "&&", "||"} {
		var o int
		for _, b := range betweens() {
			if b.Sign == sign {
				o = b.Op
			}
		}
		up, wantUp = "a "+sign+" "+up, op(o, a, wantUp)
		down, wantDown = down+" "+sign+" a", op(o, wantDown, a)
	}
	if up != "a || a && a == a < a | a ^ a & a + a * a" {
		t.Fatal(up)
	}
	wantExpr(t, up, wantUp)
	wantExpr(t, down, wantDown)
}

// Signs ahead of one are stronger than all between two, and go on one another.
func TestSignsAheadOfOne(t *testing.T) {
	a, b := reg("a"), num(2)
	for _, u := range aheads() {
		wantExpr(t, u.Sign+"a", op(u.Op, a))
		wantExpr(t, u.Sign+" 2", op(u.Op, b))
		wantExpr(t, u.Sign+"(a)", op(u.Op, a))
		wantExpr(t, "("+u.Sign+"a)", op(u.Op, a))
		for _, v := range aheads() {
			wantExpr(t, u.Sign+v.Sign+"a", op(u.Op, op(v.Op, a)))
			wantExpr(t, u.Sign+"("+v.Sign+"a)", op(u.Op, op(v.Op, a)))
			wantExpr(t, u.Sign+v.Sign+u.Sign+"2", op(u.Op, op(v.Op, op(u.Op, b))))
		}
		for _, s := range betweens() {
			wantExpr(t, u.Sign+"a "+s.Sign+" 2", op(s.Op, op(u.Op, a), b))
			wantExpr(t, "a "+s.Sign+" "+u.Sign+"2", op(s.Op, a, op(u.Op, b)))
			wantExpr(t, "a "+s.Sign+" "+u.Sign+u.Sign+"2", op(s.Op, a, op(u.Op, op(u.Op, b))))
			wantExpr(t, u.Sign+"a"+s.Sign+" "+u.Sign+"2 "+s.Sign+u.Sign+"a", op(s.Op, op(s.Op, op(u.Op, a), op(u.Op, b)), op(u.Op, a)))
			wantExpr(t, u.Sign+"(a "+s.Sign+" 2)", op(u.Op, op(s.Op, a, b)))
			wantExpr(t, u.Sign+"(a) "+s.Sign+" 2", op(s.Op, op(u.Op, a), b))
		}
		wantExprFault(t, u.Sign, 5, 1)
		wantExprFault(t, u.Sign+u.Sign, 5, 2)
		wantExprFault(t, u.Sign+"()", 5, 2)
		wantExprFault(t, "("+u.Sign+")", 5, 2)
	}
	wantExpr(t, "a--1", op(15, a, op(3, num(1))))
	wantExpr(t, "a - - - 1", op(15, a, op(3, op(3, num(1)))))
	wantExpr(t, "-9223372036854775807", op(3, num(math.MaxInt64)))
	wantExprFault(t, "a ! 2", 5, 2)
	wantExprFault(t, "a - ! - ", 5, 8)
}

// A sign between two with nothing to a side, or with another one there.
func TestSignsWithoutOperands(t *testing.T) {
	for _, s := range betweens() {
		n := len(s.Sign)
		wantExprFault(t, "a "+s.Sign, 5, 2+n)
		wantExprFault(t, "(a "+s.Sign+" )", 5, 4+n)
		if s.Sign != "-" {
			wantExprFault(t, s.Sign, 5, 0)
			wantExprFault(t, s.Sign+" a", 5, 0)
			wantExprFault(t, "("+s.Sign+" a)", 5, 1)
			wantExprFault(t, "a "+s.Sign+" "+s.Sign+" b", 5, 3+n)
			wantExprFault(t, "- "+s.Sign+" a", 5, 2)
		}
	}
	for _, s := range []string{"=", ",", ";", "{", "}", ")"} {
		wantExprFault(t, s, 5, 0)
		wantExprFault(t, "a "+s+" b", 5, 2)
		wantExprFault(t, "a + "+s+" b", 5, 4)
	}
}

// An expression stands in a statement as it stands alone.
func TestExprsInStmts(t *testing.T) {
	text := "a || b && -c == d < e | f ^ g & h + i * !j"
	i := op(16, reg("i"), op(4, reg("j")))
	e := op(5, reg("a"), op(6, reg("b"), op(7, op(3, reg("c")), op(9, reg("d"),
		op(11, reg("e"), op(12, reg("f"), op(13, reg("g"), op(14, reg("h"), i))))))))
	wantExpr(t, text, e)
	wantStmts(t, "r = "+text+";", set("r", e))
	wantStmts(t, "store(x, "+text+", rel);", access(3, "", "x", 4, e))
	wantStmts(t, "r = cas(x, "+text+", "+text+", sc);", access(4, "r", "x", 6, e, e))
	wantStmts(t, "r = add(x, "+text+", ar);", access(5, "r", "x", 5, e))
	wantStmts(t, "r = swap(x, "+text+", ar);", access(6, "r", "x", 5, e))
	wantStmts(t, "assume("+text+"); assert("+text+");", assume(e), assert(e))
	wantStmts(t, "if ("+text+") { } while ("+text+") { }", choice(e, nil, nil), loop(e))
	wantStmts(t, "r = (a) + (b);", set("r", op(14, reg("a"), reg("b"))))
	wantStmts(t, "assume((a) + (b));", assume(op(14, reg("a"), reg("b"))))
	wantStmts(t, "if ((a) + (b)) { }", choice(op(14, reg("a"), reg("b")), nil, nil))
	wantStmtsFault(t, "assume (a) + (b);", 5, 11)
	wantStmtsFault(t, "if (a) + (b) { }", 5, 7)
}

func TestExprsOfAnyShape(t *testing.T) {
	for seed := range uint64(3000) {
		m := newMaker(seed)
		e := m.Expr(7)
		if !tooGreat(e) {
			wantExpr(t, exprText(e), e)
			wantStmts(t, "r = "+exprText(e)+" ; ", api.Stmt{Kind: 1, Name: "r", Exprs: []api.Expr{e}})
		}
	}
}
