package show_test

// Tests of P5.1: Expr, and where brackets and blanks stand in its text; Sign.

import (
	"math"
	"testing"

	"cantilever/api"
	"cantilever/ast"
	"cantilever/show"
	"cantilever/trees"
)

func TestOperands(t *testing.T) {
	wantExpr(t, num(0), "0")
	wantExpr(t, num(10), "10")
	wantExpr(t, num(math.MaxInt64), "9223372036854775807")
	wantExpr(t, reg("a"), "a")
	wantExpr(t, reg("Z_9"), "Z_9")
	wantExpr(t, reg("loads"), "loads")
}

// Each sign between two with each other one to its left and to its right: brackets stand around the weaker one, and on
// the right around one of the same level, too.
func TestEachSignBesideEachOther(t *testing.T) {
	a, b, c, d := reg("a"), num(2), reg("c"), num(0)
	for _, s := range betweens() {
		wantExpr(t, op(s.Op, a, b), "a "+s.Sign+" 2")
		for _, r := range betweens() {
			in, left, right := "a "+r.Sign+" 2", "", ""
			if r.Strength < s.Strength {
				left, right = "("+in+")", "("+in+")"
			} else if r.Strength == s.Strength {
				left, right = in, "("+in+")"
			} else {
				left, right = in, in
			}
			inner := op(r.Op, a, b)
			wantExpr(t, op(s.Op, inner, c), left+" "+s.Sign+" c")
			wantExpr(t, op(s.Op, c, inner), "c "+s.Sign+" "+right)
			wantExpr(t, op(s.Op, inner, inner), left+" "+s.Sign+" "+right)
			wantExpr(t, op(s.Op, op(s.Op, d, inner), c), "0 "+s.Sign+" "+right+" "+s.Sign+" c")
		}
	}
}

func TestTheSameLevel(t *testing.T) {
	a, b, c, d := reg("a"), reg("b"), reg("c"), reg("d")
	minus, plus, times := api.OpMinus, api.OpPlus, api.OpTimes
	wantExpr(t, op(minus, op(minus, op(minus, a, b), c), d), "a - b - c - d")
	wantExpr(t, op(minus, a, op(minus, b, op(minus, c, d))), "a - (b - (c - d))")
	wantExpr(t, op(minus, op(plus, a, b), op(plus, c, d)), "a + b - (c + d)")
	wantExpr(t, op(plus, a, op(plus, b, c)), "a + (b + c)")
	wantExpr(t, op(times, op(times, a, b), op(times, c, d)), "a * b * (c * d)")
	wantExpr(t, op(api.OpOr, a, op(api.OpOr, b, c)), "a || (b || c)")
	wantExpr(t, op(api.OpEq, op(api.OpNe, a, b), op(api.OpNe, c, d)), "a != b == (c != d)")
	wantExpr(t, op(api.OpLess, op(api.OpMost, a, b), op(api.OpMost, c, d)), "a <= b < (c <= d)")
}

// From the weakest to the strongest no brackets are needed, the other way round everywhere.
func TestAllStrengths(t *testing.T) {
	a := reg("a")
	up, down := a, a
	for _, o := range []int{api.OpTimes, api.OpPlus, api.OpBand, api.OpXor, api.OpBor, api.OpLess, api.OpEq, api.OpAnd, api.OpOr} {
		up = op(o, a, up)
	}
	for _, o := range []int{api.OpOr, api.OpAnd, api.OpNe, api.OpMost, api.OpBor, api.OpXor, api.OpBand, api.OpMinus, api.OpTimes} {
		down = op(o, down, a)
	}
	wantExpr(t, up, "a || a && a == a < a | a ^ a & a + a * a")
	wantExpr(t, down, "((((((((a || a) && a) != a) <= a) | a) ^ a) & a) - a) * a")
}

// Behind a sign ahead of one no blank stands, and brackets just around signs between two; around it stand none.
func TestSignsAheadOfOne(t *testing.T) {
	a, b := reg("a"), num(2)
	for _, u := range aheads() {
		wantExpr(t, op(u.Op, a), u.Sign+"a")
		wantExpr(t, op(u.Op, b), u.Sign+"2")
		wantExpr(t, op(u.Op, num(0)), u.Sign+"0")
		for _, v := range aheads() {
			wantExpr(t, op(u.Op, op(v.Op, a)), u.Sign+v.Sign+"a")
			wantExpr(t, op(u.Op, op(v.Op, op(u.Op, b))), u.Sign+v.Sign+u.Sign+"2")
		}
		for _, s := range betweens() {
			ahead, two := op(u.Op, a), op(s.Op, a, b)
			wantExpr(t, op(u.Op, two), u.Sign+"(a "+s.Sign+" 2)")
			wantExpr(t, op(u.Op, op(u.Op, two)), u.Sign+u.Sign+"(a "+s.Sign+" 2)")
			wantExpr(t, op(s.Op, ahead, b), u.Sign+"a "+s.Sign+" 2")
			wantExpr(t, op(s.Op, b, ahead), "2 "+s.Sign+" "+u.Sign+"a")
			wantExpr(t, op(s.Op, ahead, ahead), u.Sign+"a "+s.Sign+" "+u.Sign+"a")
			wantExpr(t, op(s.Op, b, op(u.Op, ahead)), "2 "+s.Sign+" "+u.Sign+u.Sign+"a")
			wantExpr(t, op(s.Op, op(u.Op, two), op(u.Op, two)), u.Sign+"(a "+s.Sign+" 2) "+s.Sign+" "+u.Sign+"(a "+s.Sign+" 2)")
			wantExpr(t, op(u.Op, op(s.Op, ahead, ahead)), u.Sign+"("+u.Sign+"a "+s.Sign+" "+u.Sign+"a)")
		}
	}
	wantExpr(t, op(api.OpNeg, num(math.MaxInt64)), "-9223372036854775807")
	wantExpr(t, op(api.OpMinus, a, op(api.OpNeg, op(api.OpNeg, b))), "a - --2")
}

func TestExprsOfAnyShape(t *testing.T) {
	seen := 0
	for seed := range uint64(3000) {
		e := trees.NewMaker(seed).Expr(7)
		if ast.CheckExpr(e) == api.OK {
			wantExpr(t, e, plainExpr(e))
			seen++
		}
	}
	if seen < 2900 {
		t.Error("hardly any", seen)
	}
}

func TestSign(t *testing.T) {
	want := map[int]string{3: "-", 4: "!", 5: "||", 6: "&&", 7: "==", 8: "!=", 9: "<", 10: "<=", 11: "|", 12: "^", 13: "&", 14: "+", 15: "-", 16: "*"}
	for o := -300; o < 300; o++ {
		if got := show.Sign(o); got != want[o] {
			t.Errorf("Sign of %d: %q", o, got)
		}
	}
	for _, o := range []int{math.MinInt, math.MinInt + 3, -1 << 32, -1<<32 + 5, 1 << 32, 1<<32 + 3, 1<<16 + 5, math.MaxInt} {
		if got := show.Sign(o); got != "" {
			t.Errorf("Sign of %d: %q", o, got)
		}
	}
}
