package lex_test

// Tests of P2.1: Word and Line.

import (
	"math"
	"strings"
	"testing"

	"cantilever/api"
	"cantilever/lex"
)

func wantWord(t *testing.T, s string, kind int, ok bool) {
	t.Helper()
	if k, yes := lex.Word(s); k != kind || yes != ok {
		t.Errorf("%.80q: %d, %v, not %d, %v", s, k, yes, kind, ok)
	}
}

func TestWordOfKeywords(t *testing.T) {
	for _, k := range keywords() {
		wantWord(t, k, api.TokKey, true)
		for _, other := range []string{k + "x", k + "_", k + "1", "x" + k, k + k, strings.ToUpper(k), k[:1] + strings.ToUpper(k[1:])} {
			wantWord(t, other, api.TokWord, true)
		}
	}
}

func TestWordOfWords(t *testing.T) {
	for _, w := range []string{"a", "z", "A", "Z", "r1", "x_", "a__b", "Z9_", "i", "whil", "none", strings.Repeat("a", 1<<16)} {
		wantWord(t, w, api.TokWord, true)
	}
}

func TestWordOfNoWord(t *testing.T) {
	for _, s := range []string{"", " ", "_", "_a", "0", "1a", "9", "=", "(", "#", "//", "\n", "\x00", "\xff", "\xc3\xa4", "é", "."} {
		wantWord(t, s, 0, false)
	}
}

// A word or a keyword with anything more about it is not just such a token.
func TestWordWithMoreAboutIt(t *testing.T) {
	for _, w := range append(keywords(), "a", "r1", "x_") {
		for c := range 256 {
			b := string([]byte{byte(c)})
			if strings.Contains("abcdefghijklmnopqrstuvwxyzABCDEFGHIJKLMNOPQRSTUVWXYZ", b) {
				continue
			}
			wantWord(t, b+w, 0, false)
			if !strings.Contains("0123456789_", b) {
				wantWord(t, w+b, 0, false)
				wantWord(t, w+b+w, 0, false)
			}
		}
		for _, more := range []string{" a", "//", ";", " " + w, "//a", "\n"} {
			wantWord(t, w+more, 0, false)
		}
	}
}

// Word of a text is the kind of its one token, if that has all of its bytes.
func TestWordIsWhatAllTells(t *testing.T) {
	texts("aif_0 ;\xff", 4, func(s string) {
		kind := 0
		l, _ := lex.All(s)
		if len(l) == 2 && l[0].Text == s && (l[0].Kind == api.TokWord || l[0].Kind == api.TokKey) {
			kind = l[0].Kind
		}
		wantWord(t, s, kind, kind != 0)
	})
}

func wantLine(t *testing.T, s string, at, line, column int) {
	t.Helper()
	if l, c := lex.Line(s, at); l != line || c != column {
		t.Errorf("%q at %d: %d, %d, not %d, %d", s, at, l, c, line, column)
	}
}

func TestLine(t *testing.T) {
	s := "ab\ncd\n\nefg"
	for at, want := range [][2]int{{1, 1}, {1, 2}, {1, 3}, {2, 1}, {2, 2}, {2, 3}, {3, 1}, {4, 1}, {4, 2}, {4, 3}, {4, 4}} {
		wantLine(t, s, at, want[0], want[1])
	}
	wantLine(t, s, -1, 1, 1)
	wantLine(t, s, math.MinInt, 1, 1)
	wantLine(t, s, len(s)+1, 4, 4)
	wantLine(t, s, math.MaxInt, 4, 4)
}

func TestLineAtTheEdges(t *testing.T) {
	for _, at := range []int{math.MinInt, -1, 0, 1, math.MaxInt} {
		wantLine(t, "", at, 1, 1)
	}
	wantLine(t, "\n", 0, 1, 1)
	wantLine(t, "\n", 1, 2, 1)
	wantLine(t, "\n", 2, 2, 1)
	wantLine(t, "a\n", 2, 2, 1)
	wantLine(t, "a\n", 9, 2, 1)
}

// Columns are bytes, no line ends by a byte 13, and a text that has no tokens, or is too long, has lines too.
func TestLineOfAnyText(t *testing.T) {
	wantLine(t, "a\r\nb", 2, 1, 3)
	wantLine(t, "a\r\nb", 3, 2, 1)
	wantLine(t, "a\rb", 2, 1, 3)
	wantLine(t, "\xc3\xa4#", 2, 1, 3)
	wantLine(t, "// a\n#", 5, 2, 1)
	long := strings.Repeat("a\n", 1<<17)
	wantLine(t, long, 1<<18-1, 1<<17, 2)
	wantLine(t, long, 1<<18, 1<<17+1, 1)
}

// Held against going there byte by byte.
func TestLineStepByStep(t *testing.T) {
	texts("a\n\r", 6, func(s string) {
		line, column := 1, 1
		for at := range len(s) + 1 {
			wantLine(t, s, at, line, column)
			if at < len(s) && s[at] == '\n' {
				line, column = line+1, 0
			}
			column++
		}
		l, c := lex.Line(s, len(s))
		wantLine(t, s, -2, 1, 1)
		wantLine(t, s, len(s)+1, l, c)
	})
}
