package lex_test

// Tests of the rules that hold everywhere: answers are new memory, and what is handed in stays as it was.

import (
	"slices"
	"testing"

	"cantilever/api"
	"cantilever/lex"
)

func TestTokensAreNewMemory(t *testing.T) {
	for _, s := range []string{"", "a", "if (a <= 10) { store(x, 1, rlx); } // so"} {
		l, _ := lex.All(s)
		old := slices.Clone(l)
		other, _ := lex.All(s)
		full := other[:cap(other)]
		for i := range full {
			full[i] = api.Token{Kind: 9, Text: "#", Num: 9, At: 9}
		}
		again, _ := lex.All(s)
		if !slices.Equal(l, old) || !slices.Equal(again, old) {
			t.Errorf("%q: %v, %v, not %v", s, l, again, old)
		}
	}
}

func TestJoinLeavesItsTokensAlone(t *testing.T) {
	room := []api.Token{word("a", 0), sign("=", 2), number("1", 1, 4), word("b", 5), end(6)}
	old := slices.Clone(room)
	s := lex.Join(room[:3])
	if !slices.Equal(room, old) {
		t.Error(room)
	}
	room[0].Text = "c"
	if s != "a = 1" {
		t.Error(s)
	}
}

func TestCallsDependOnTheirArgumentsAlone(t *testing.T) {
	const s = "thread { r = cas(x, 0, 1, ar); }"
	want, _ := lex.All(s)
	lex.All("01")
	lex.Word("thread")
	lex.Line(s, 7)
	lex.Join(want)
	wantTokens(t, s, want)
}
