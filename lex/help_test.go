package lex_test

import (
	"math/big"
	"regexp"
	"slices"
	"strings"
	"testing"

	"cantilever/api"
	"cantilever/lex"
)

// The document's lists, told once more for the tests.

func keywords() []string {
	return []string{"shared", "plain", "thread", "if", "else", "while", "load", "store", "cas", "add",
		"swap", "fence", "assume", "assert", "na", "rlx", "acq", "rel", "ar", "sc"}
}

func signs() []string {
	return []string{"||", "&&", "==", "!=", "<=", "<", "+", "-", "*", "&", "|", "^", "!", "=", "(", ")", "{", "}", ",", ";"}
}

func blanks() []string { return []string{" ", "\t", "\n", "\r"} }

// A reader tells a text's tokens the plain way: by regular expressions that take the longest.
type reader struct {
	gap, word, digits, sign *regexp.Regexp
}

func newReader() reader {
	longest := func(form string) *regexp.Regexp {
		r := regexp.MustCompile(`^(?:` + form + `)`)
		r.Longest()
		return r
	}
	var quoted []string
	for _, s := range signs() {
		quoted = append(quoted, regexp.QuoteMeta(s))
	}
	return reader{
		gap:    longest(`(?:[ \t\n\r]|//[^\n]*)*`),
		word:   longest(`[a-zA-Z][a-zA-Z0-9_]*`),
		digits: longest(`[0-9]+[a-zA-Z_]?`),
		sign:   longest(strings.Join(quoted, "|")),
	}
}

// all is what lex.All is to answer.
func (r reader) all(s string) ([]api.Token, api.Fault) {
	if len(s) > 1<<16 {
		return nil, api.Fault{Err: api.ErrLong}
	}
	var l []api.Token
	at := len(r.gap.FindString(s))
	for at < len(s) {
		t := r.token(s[at:])
		if t.Kind == 0 {
			return nil, api.Fault{Err: api.ErrLex, At: at}
		}
		t.At = at
		l = append(l, t)
		at += len(t.Text)
		at += len(r.gap.FindString(s[at:]))
	}
	return append(l, api.Token{Kind: api.TokEnd, At: len(s)}), api.Fault{}
}

// token is the token at the beginning of s, of no kind if there is none.
func (r reader) token(s string) api.Token {
	if text := r.word.FindString(s); text != "" {
		if slices.Contains(keywords(), text) {
			return api.Token{Kind: api.TokKey, Text: text}
		}
		return api.Token{Kind: api.TokWord, Text: text}
	}
	if text := r.digits.FindString(s); text != "" {
		n, ok := new(big.Int).SetString(text, 10)
		if ok && n.IsInt64() && n.String() == text {
			return api.Token{Kind: api.TokNum, Text: text, Num: n.Int64()}
		}
		return api.Token{}
	}
	if text := r.sign.FindString(s); text != "" {
		return api.Token{Kind: api.TokSign, Text: text}
	}
	return api.Token{}
}

// texts goes through all texts of at most n of these bytes.
func texts(bytes string, n int, f func(s string)) {
	f("")
	layer := []string{""}
	for range n {
		var longer []string
		for _, s := range layer {
			for i := range len(bytes) {
				longer = append(longer, s+bytes[i:i+1])
				f(s + bytes[i:i+1])
			}
		}
		layer = longer
	}
}

// mix is a number that hangs on its seed alone, with bits that look like no rule.
func mix(seed uint64) uint64 {
	seed += 0x9e3779b97f4a7c15
	seed = (seed ^ seed>>30) * 0xbf58476d1ce4e5b9
	seed = (seed ^ seed>>27) * 0x94d049bb133111eb
	return seed ^ seed>>31
}

// pieces are what mixed texts are put together of: each of the document's things, and what stands close to it.
func pieces() []string {
	l := slices.Concat(keywords(), signs(), blanks())
	return append(l, "a", "r1", "Z_9", "iff", "a_", "0", "1", "42", "9223372036854775807", "//", "// x = 1;\n", "//\r\n", "  ", "\n\n")
}

// mixedTexts are longer texts, put together by a number each: with blanks between the pieces, or close together.
func mixedTexts() []string {
	p := pieces()
	var l []string
	for seed := range uint64(3000) {
		between := []string{"", " ", "\n"}[seed%3]
		var parts []string
		for k := range mix(seed)%60 + 1 {
			parts = append(parts, p[mix(seed<<8+k)%uint64(len(p))])
		}
		l = append(l, strings.Join(parts, between))
	}
	return l
}

func wantTokens(t *testing.T, s string, want []api.Token) {
	t.Helper()
	got, fault := lex.All(s)
	if fault != (api.Fault{}) || !slices.Equal(got, want) {
		t.Fatalf("%.80q: %v, %v, not %v", s, got, fault, want)
	}
}

func wantFault(t *testing.T, s string, want api.Fault) {
	t.Helper()
	got, fault := lex.All(s)
	if fault != want || len(got) != 0 {
		t.Fatalf("%.80q: %d tokens, %v, not %v", s, len(got), fault, want)
	}
}

// like holds lex.All of s against the plain reader.
func (r reader) like(t *testing.T, s string) {
	t.Helper()
	want, fault := r.all(s)
	if fault != (api.Fault{}) {
		wantFault(t, s, fault)
		return
	}
	wantTokens(t, s, want)
}

func word(text string, at int) api.Token { return api.Token{Kind: api.TokWord, Text: text, At: at} }

func key(text string, at int) api.Token { return api.Token{Kind: api.TokKey, Text: text, At: at} }

func sign(text string, at int) api.Token { return api.Token{Kind: api.TokSign, Text: text, At: at} }

func number(text string, n int64, at int) api.Token {
	return api.Token{Kind: api.TokNum, Text: text, Num: n, At: at}
}

func end(at int) api.Token { return api.Token{Kind: api.TokEnd, At: at} }
