package lex_test

// Tests of P2.2 (Join), and of P2.3: what follows.

import (
	"math"
	"regexp"
	"slices"
	"strings"
	"testing"

	"cantilever/api"
	"cantilever/lex"
)

func wantJoin(t *testing.T, l []api.Token, want string) {
	t.Helper()
	if got := lex.Join(l); got != want {
		t.Errorf("%v: %q, not %q", l, got, want)
	}
}

func TestJoin(t *testing.T) {
	wantJoin(t, nil, "")
	wantJoin(t, []api.Token{}, "")
	wantJoin(t, []api.Token{word("a", 0)}, "a")
	wantJoin(t, []api.Token{word("a", 0), sign("=", 1), number("1", 1, 2)}, "a = 1")
	wantJoin(t, []api.Token{sign("<", 0), sign("=", 2), key("if", 3)}, "< = if")
}

// The end is a token as the others are, with an empty Text.
func TestJoinWithTheEnd(t *testing.T) {
	wantJoin(t, []api.Token{end(3)}, "")
	wantJoin(t, []api.Token{word("a", 0), end(1)}, "a ")
	wantJoin(t, []api.Token{end(0), word("a", 0)}, " a")
	wantJoin(t, []api.Token{word("a", 0), end(1), sign(";", 2)}, "a  ;")
	wantJoin(t, []api.Token{end(0), end(0), end(0)}, "  ")
}

// The Texts count, whatever else a token has, and whatever they are.
func TestJoinOfTheTextsAlone(t *testing.T) {
	wantJoin(t, []api.Token{{Kind: -1, Text: "1", Num: 7, At: math.MaxInt}, {Text: "# \n"}, {Kind: 99, Text: "\xff"}}, "1 # \n \xff")
	wantJoin(t, []api.Token{{}, {}}, " ")
	long := strings.Repeat("a", 1<<17)
	wantJoin(t, []api.Token{{Text: long}, {Text: long}}, long+" "+long)
}

func TestJoinOfAll(t *testing.T) {
	l, _ := lex.All("\tr1=load(x,acq);//so\n if(a<=b)")
	wantJoin(t, l, "r1 = load ( x , acq ) ; if ( a <= b ) ")
	for n := range l {
		var parts []string
		for _, tok := range l[:n] {
			parts = append(parts, tok.Text)
		}
		wantJoin(t, l[:n], strings.Join(parts, " "))
	}
}

// good goes through texts that have tokens: all short ones of some bytes, and longer ones.
func good(f func(s string, l []api.Token)) {
	try := func(s string) {
		if l, fault := lex.All(s); fault == (api.Fault{}) {
			f(s, l)
		}
	}
	texts("ai_01|&=!</ \n(", 4, try)
	for _, s := range mixedTexts() {
		try(s)
	}
	long := strings.Repeat("x<=1//\n", 1<<13)
	try(long)
	try(long + "//" + strings.Repeat(" ", 1<<16-2-len(long)))
}

func withoutPlaces(l []api.Token) []api.Token {
	plain := slices.Clone(l)
	for i := range plain {
		plain[i].At = 0
	}
	return plain
}

func TestAllOfJoinOfAll(t *testing.T) {
	count := 0
	good(func(s string, l []api.Token) {
		again, fault := lex.All(lex.Join(l))
		if fault != (api.Fault{}) || !slices.Equal(withoutPlaces(again), withoutPlaces(l)) {
			t.Fatalf("%.80q: %v, %v, not %v", s, again, fault, l)
		}
		count++
	})
	if count < 5000 {
		t.Error("too few texts have tokens:", count)
	}
}

// Texts are bounded, and Join puts blanks in: what it makes of a long text may be too long.
func TestAllOfAJoinThatIsTooLong(t *testing.T) {
	l, fault := lex.All(strings.Repeat("(", 1<<15+1))
	if fault != (api.Fault{}) {
		t.Fatal(fault)
	}
	wantFault(t, lex.Join(l), api.Fault{Err: api.ErrLong})
	again, fault := lex.All(lex.Join(l[1:]))
	if fault != (api.Fault{}) || !slices.Equal(withoutPlaces(again), withoutPlaces(l[1:])) {
		t.Error(len(again), fault)
	}
}

func TestEachByteIsToldOf(t *testing.T) {
	between := regexp.MustCompile(`^(?:[ \t\n\r]|//[^\n]*(?:\n|$))*$`)
	good(func(s string, l []api.Token) {
		at := 0
		for _, tok := range l {
			if tok.At < at || !between.MatchString(s[at:tok.At]) {
				t.Fatalf("%.80q: %q is left out", s, s[at:])
			}
			at = tok.At + len(tok.Text)
			if at > len(s) || s[tok.At:at] != tok.Text {
				t.Fatalf("%.80q: %v is not there", s, tok)
			}
		}
		last := l[len(l)-1]
		if at != len(s) || last != end(len(s)) {
			t.Fatalf("%.80q: it ends by %v", s, last)
		}
	})
}

// There is one end, it is the last token, and no other token is empty.
func TestTheEndIsTheLastOne(t *testing.T) {
	good(func(s string, l []api.Token) {
		for _, tok := range l[:len(l)-1] {
			if tok.Kind == api.TokEnd || tok.Text == "" || (tok.Kind != api.TokNum && tok.Num != 0) {
				t.Fatalf("%.80q: %v", s, tok)
			}
		}
	})
}
