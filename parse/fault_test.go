package parse_test

// Tests of P4.1: which fault comes first, and where it is; and what is open at once.

import (
	"strings"
	"testing"

	"cantilever/api"
	"cantilever/lex"
	"cantilever/parse"
)

// The fault of a token goes ahead of every other one, wherever that is.
func TestTokensFirst(t *testing.T) {
	deep := strings.Repeat("(", 300)
	for _, c := range []struct {
		s  string
		at int
	}{
		{"#", 0}, {"; #", 2}, {"thread { r = ; } #", 17}, {"} } } 01", 6}, {deep + "1a", 300}, {"a + # + #", 4}, {"9223372036854775808", 0},
		{"// x\n_a", 5}, {"shared x = -1; $", 15}, {strings.Repeat("-", 250) + ">", 250}, {"a /b", 2}, {"a.b", 1},
	} {
		wantFault(t, c.s, 4, c.at)
		wantExprFault(t, c.s, 4, c.at)
		wantStmtsFault(t, c.s, 4, c.at)
	}
	for _, s := range []string{strings.Repeat(" ", maxText+1), strings.Repeat("#", maxText+1), strings.Repeat("(", maxText+1), strings.Repeat("1", 1<<18)} {
		wantFault(t, s, 3, 0)
		wantExprFault(t, s, 3, 0)
		wantStmtsFault(t, s, 3, 0)
	}
}

func TestTheLongestTexts(t *testing.T) {
	wantProgram(t, strings.Repeat(" ", maxText), api.Program{})
	wantExpr(t, strings.Repeat("\n", maxText-1)+"a", reg("a"))
	wantExprFault(t, strings.Repeat(";", maxText), 5, 0)
	wantStmtsFault(t, strings.Repeat(" ", maxText-1)+"a", 5, maxText)
	wantFault(t, strings.Repeat("}", maxText), 5, 0)
}

// Of several tokens that do not fit the first counts.
func TestTheFirstFaultCounts(t *testing.T) {
	wantFault(t, "shared; thread; }", 5, 6)
	wantFault(t, "shared x; thread; }", 5, 16)
	wantStmtsFault(t, "r = ; s = ;", 5, 4)
	wantExprFault(t, "a + + (", 5, 4)
	wantExprFault(t, ") (", 5, 0)
}

// The end is a token, too: what is missing there is told at the text's length, behind blanks and remarks.
func TestFaultsAtTheEnd(t *testing.T) {
	for _, s := range []string{"thread {", "thread", "thread { r", "thread { r =", "thread { r = 1", "thread { r = 1;", "thread { if (a) {", "thread { if (a) { }",
		"thread { if (a) { } else", "thread { fence", "thread { fence(", "thread { fence(sc", "thread { fence(sc)", "shared", "shared x", "plain x =", "plain x = 1", "plain x,"} {
		for _, behind := range []string{"", " ", "\n\n", "// }", " // ;\n\t"} {
			wantFault(t, s+behind, 5, len(s+behind))
		}
	}
	for _, s := range []string{"", "a +", "(a", "-", "!", "(", "a ||", "(a) *", "- -"} {
		wantExprFault(t, s+" // )", 5, len(s)+5)
	}
	for _, s := range []string{"r", "r =", "while", "while (a) {", "if (a) { } else if (b)"} {
		wantStmtsFault(t, s+" \r\n", 5, len(s)+3)
	}
}

// An opening is what opens something where an expression stands, and what closes it again.
type opening struct{ before, after string }

func openings() []opening { return []opening{{"(", ")"}, {"-", ""}, {"!", ""}} }

// nested is a piece of text in so many openings, taken in turn.
func nested(n int, l []opening, in string) string {
	before, after := "", ""
	for i := range n {
		o := l[i%len(l)]
		before, after = before+o.before, o.after+after
	}
	return before + in + after
}

// Brackets alone make no tree deeper.
func TestBracketsOpenAtOnce(t *testing.T) {
	brackets := []opening{{"(", ")"}}
	for _, n := range []int{1, 32, 33, maxOpen - 1, maxOpen} {
		wantExpr(t, nested(n, brackets, "a"), reg("a"))
		wantExpr(t, nested(n, brackets, "a")+"+"+nested(n, brackets, "b"), op(14, reg("a"), reg("b")))
		wantExprFault(t, nested(n, brackets, "a")+")", 5, 2*n+1)
	}
	for _, n := range []int{maxOpen + 1, maxOpen + 2, 5000, 30000} {
		wantExprFault(t, nested(n, brackets, "a"), 3, maxOpen)
		wantExprFault(t, strings.Repeat("(", n), 3, maxOpen)
	}
	wantExprFault(t, strings.Repeat("(", maxOpen), 5, maxOpen)
	wantExprFault(t, strings.Repeat("(", maxText), 3, maxOpen)
}

// Signs ahead of one make trees that are nested too deep long before too many are open, which is told at 0 then.
func TestSignsOpenAtOnce(t *testing.T) {
	for _, sign := range []string{"-", "!"} {
		for _, n := range []int{maxNest, maxOpen - 1, maxOpen} {
			wantExprFault(t, strings.Repeat(sign, n)+"a", 3, 0)
			wantExprFault(t, strings.Repeat(sign, n), 5, n)
			wantExprFault(t, strings.Repeat(sign, n)+"a a", 5, n+2)
		}
		for _, n := range []int{maxOpen + 1, maxOpen + 2, maxText - 1} {
			wantExprFault(t, strings.Repeat(sign, n)+"a", 3, maxOpen)
			wantExprFault(t, strings.Repeat(sign, n), 3, maxOpen)
		}
	}
}

func TestMixedOpenAtOnce(t *testing.T) {
	for _, l := range [][]opening{openings(), {{"(", ")"}, {"!", ""}}, {{"-", ""}, {"(", ")"}}, {{"(a+", ")"}, {"- ", ""}}, {{"a-(", ")"}}} {
		for _, n := range []int{70, maxOpen - 1, maxOpen} {
			s := nested(n, l, "a")
			wantExprFault(t, s, 3, 0)
			wantExprFault(t, s+";", 5, len(s))
		}
		for _, o := range append(openings(), opening{"{", "}"}) {
			s := nested(maxOpen, l, o.before)
			at := strings.LastIndex(s, o.before)
			if o.before == "{" {
				wantExprFault(t, s, 5, at)
			} else {
				wantExprFault(t, s, 3, at)
				wantExprFault(t, s+"#", 4, len(s))
			}
		}
	}
}

// All brackets of statements count, those behind keywords, too.
func TestStmtsOpenAtOnce(t *testing.T) {
	ifs := strings.Repeat("if(a){", maxOpen-1)
	wantStmtsFault(t, ifs+"if(a){"+strings.Repeat("}", maxOpen), 3, 0)
	wantStmtsFault(t, ifs+"if(a){if(a){"+strings.Repeat("}", maxOpen+1), 3, 6*maxOpen+2)
	wantStmtsFault(t, ifs+"if(a){r=1;", 5, 6*maxOpen+4)
	for _, s := range []string{"r=load(", "store(", "r=cas(", "r=add(", "r=swap(", "fence(", "assume(", "assert(", "if(", "while(", "r=("} {
		at := len(ifs) + len(s)
		wantStmtsFault(t, ifs+s, 5, at)
		wantStmtsFault(t, ifs+"if(a){"+s, 3, at+5)
		wantFault(t, "thread{"+ifs+s, 3, at+6)
		wantFault(t, "thread{"+ifs[6:]+s, 5, at+1)
	}
	wantStmtsFault(t, ifs+"r=-(", 3, len(ifs)+3)
	wantStmtsFault(t, ifs+"r=!!", 3, len(ifs)+3)
	wantStmtsFault(t, ifs+"store(x,-", 3, len(ifs)+8)
	wantStmtsFault(t, ifs+"store(x,a-", 5, len(ifs)+10)
	wantStmtsFault(t, ifs+"if(a){}else{while(", 3, len(ifs)+17)
	wantStmtsFault(t, ifs+"if(a){while(a){", 3, len(ifs)+11)
	whole := "thread{" + strings.Repeat("while(a){", maxOpen-1)
	wantFault(t, whole, 5, len(whole))
	wantFault(t, whole+"while(a)", 3, len(whole)+5)
}

// What is closed again is no longer open, nor is a sign ahead of one behind what it stands ahead of.
func TestNoLongerOpen(t *testing.T) {
	many := 400
	full := strings.Repeat("(", maxOpen-1)
	ends := strings.Repeat(")", maxOpen-1)
	for _, one := range []string{"-a", "!a", "(a)", "-1", "!7"} {
		in := full + strings.Repeat(one+"+", 15) + "a" + ends
		if _, fault := parse.Expr(in); fault != (api.Fault{}) {
			t.Errorf("%q: %v", one, fault)
		}
		wantExprFault(t, full+strings.Repeat(one+"+", many)+"a"+ends, 3, 0)
		wantExprFault(t, full+strings.Repeat(one+"+", many)+"(("+ends, 3, len(full)+(len(one)+1)*many+1)
	}
	// One of them is open within its operand, up to the bracket that ends this.
	for _, sign := range []string{"-", "!"} {
		s := strings.Repeat("(", maxOpen-2) + sign + "("
		wantExprFault(t, s+"-", 3, len(s))
		wantExprFault(t, s+"a+(", 3, len(s)+2)
		wantExprFault(t, s+"a)+((", 5, len(s)+5)
		wantExprFault(t, s+"a)+(((", 3, len(s)+5)
		wantExprFault(t, s+"a)+-!!", 3, len(s)+5)
		s = strings.Repeat("(", maxOpen-2) + sign + sign
		wantExprFault(t, s+"(", 3, len(s))
		wantExprFault(t, s+"a*((", 5, len(s)+4)
		wantExprFault(t, s+"1*(((", 3, len(s)+4)
		wantExprFault(t, s+"1-"+sign+sign+sign, 3, len(s)+4)
	}
	// A - between two opens nothing.
	wantExprFault(t, "a"+strings.Repeat("-a", many), 3, 0)
	wantExprFault(t, full+"a"+strings.Repeat("-a", many)+"-(", 5, len(full)+1+2*many+2)
	wantExprFault(t, full+"a"+strings.Repeat("-(a)", many)+"--", 5, len(full)+1+4*many+2)
	// Brackets and blocks one behind the other.
	l, fault := parse.Stmts(strings.Repeat("if((a)){store(x,-(a),rlx);}else{}", 200))
	if fault != (api.Fault{}) || len(l) != 200 {
		t.Error("one behind the other", len(l), fault)
	}
	p, fault := parse.Parse(strings.Repeat("thread{fence(sc);}", 900))
	if fault != (api.Fault{}) || len(p.Threads) != 900 {
		t.Error("one behind the other", len(p.Threads), fault)
	}
	// An else if stands in nothing but its own.
	chain := "if(a){}" + strings.Repeat("else if(a){}", 5000)
	wantStmtsFault(t, chain, 3, 0)
	wantStmtsFault(t, chain+"else", 5, len(chain)+4)
}

// Of a token that does not fit and one behind which too much is open the one further left counts.
func TestSyntaxAndOpen(t *testing.T) {
	full := strings.Repeat("(", maxOpen)
	wantExprFault(t, full+"a b (", 5, maxOpen+2)
	wantExprFault(t, full+"( a b", 3, maxOpen)
	wantExprFault(t, full+"(;", 3, maxOpen)
	wantExprFault(t, full+"a(", 5, maxOpen+1)
	wantExprFault(t, full+"a!", 5, maxOpen+1)
	wantExprFault(t, full+"1{", 5, maxOpen+1)
	wantExprFault(t, full+"{", 5, maxOpen)
	wantExprFault(t, full+")", 5, maxOpen)
	wantExprFault(t, full+"a-", 5, maxOpen+2)
	wantExprFault(t, full+"a-(", 3, maxOpen+2)
	wantExprFault(t, "b a"+full+"(", 5, 2)
	wantExprFault(t, full+"(\x00", 4, maxOpen+1)
	wantStmtsFault(t, "r = "+full+"( ; s = ;", 3, maxOpen+4)
	wantStmtsFault(t, "r = ; s = "+full+"(", 5, 4)
	wantFault(t, "thread { r = "+full+"a", 3, 13+maxOpen-1)
	wantFault(t, "thread r = "+full+"a", 5, 7)
	// The tree's own limits come behind both.
	long := strings.Repeat("a+", 3000)
	wantExprFault(t, long, 5, 6000)
	wantExprFault(t, long+full+"(", 3, 6000+maxOpen)
	wantExprFault(t, long+"a", 3, 0)
	wantExprFault(t, long+"a)", 5, 6001)
}

// No text makes a call panic, and each fault lies in the text.
func TestAnyTexts(t *testing.T) {
	for seed := range uint64(4000) {
		m := newMaker(seed)
		var b strings.Builder
		for range m.Below(60) {
			if seed%4 == 0 {
				b.WriteByte(byte(m.Below(256)))
			} else {
				b.WriteString(things()[m.Below(len(things()))] + []string{"", " ", "\n", "//"}[m.Below(20)%4])
			}
		}
		s := b.String()
		_, inProgram := parse.Parse(s)
		_, inExpr := parse.Expr(s)
		_, inStmts := parse.Stmts(s)
		tokens, fault := lex.All(s)
		for _, f := range []api.Fault{inProgram, inExpr, inStmts} {
			if fault != (api.Fault{}) && f != fault || !isPlace(tokens, f) && f != fault {
				t.Errorf("%q: %v, %v", s, f, fault)
			}
		}
	}
}

// isPlace tells whether a fault by tokens is at one of these.
func isPlace(tokens []api.Token, f api.Fault) bool {
	if f.Err == api.OK || f.Err == api.ErrLong {
		return f.At == 0
	}
	for _, token := range tokens {
		if f == (api.Fault{Err: api.ErrSyntax, At: token.At}) {
			return true
		}
	}
	return false
}
