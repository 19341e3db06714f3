package lex_test

// Tests of P2.1: All.

import (
	"strings"
	"testing"

	"cantilever/api"
)

func TestAllExamples(t *testing.T) {
	wantTokens(t, "r1=load(x,acq);", []api.Token{word("r1", 0), sign("=", 2), key("load", 3), sign("(", 7),
		word("x", 8), sign(",", 9), key("acq", 10), sign(")", 13), sign(";", 14), end(15)})
	wantTokens(t, "a<=b //c", []api.Token{word("a", 0), sign("<=", 1), word("b", 3), end(8)})
	for _, s := range []string{"01", "1a", "#", "9223372036854775808", "01; 1a; #; 9223372036854775808"} {
		wantFault(t, s, api.Fault{Err: api.ErrLex})
	}
}

func TestAllOfAProgram(t *testing.T) {
	wantTokens(t, "plain y = 7;\nthread {\n\tassert(!y || 1 < 2); // so\r\n}\n", []api.Token{
		key("plain", 0), word("y", 6), sign("=", 8), number("7", 7, 10), sign(";", 11),
		key("thread", 13), sign("{", 20), key("assert", 23), sign("(", 29), sign("!", 30), word("y", 31), sign("||", 33),
		number("1", 1, 36), sign("<", 38), number("2", 2, 40), sign(")", 41), sign(";", 42), sign("}", 51), end(53)})
}

func TestAllOfNothing(t *testing.T) {
	wantTokens(t, "", []api.Token{end(0)})
	wantTokens(t, " \t\n\r", []api.Token{end(4)})
	wantTokens(t, "//", []api.Token{end(2)})
	wantTokens(t, "\n// a\n\n//b", []api.Token{end(10)})
}

func TestAllOfTheLongestText(t *testing.T) {
	const most = 1 << 16
	if api.MaxText != most {
		t.Fatal(api.MaxText)
	}
	wantTokens(t, strings.Repeat(" ", most), []api.Token{end(most)})
	long := strings.Repeat("a", most)
	wantTokens(t, long, []api.Token{word(long, 0), end(most)})
	wantTokens(t, "/"+strings.Repeat("/", most-1), []api.Token{end(most)})
	wantTokens(t, strings.Repeat("\n", most-1)+"7", []api.Token{number("7", 7, most-1), end(most)})
	wantFault(t, strings.Repeat("1", most), api.Fault{Err: api.ErrLex})
	wantFault(t, strings.Repeat(" ", most-1)+"#", api.Fault{Err: api.ErrLex, At: most - 1})
	var many []api.Token
	for at := range most {
		many = append(many, sign("(", at))
	}
	wantTokens(t, strings.Repeat("(", most), append(many, end(most)))
}

// That a text is too long goes ahead of what is wrong in it.
func TestAllOfATextThatIsTooLong(t *testing.T) {
	for _, n := range []int{1<<16 + 1, 1<<16 + 2, 1 << 17} {
		for _, c := range []string{" ", "a", "1", "(", "/", "#", "\n", "\x00", "\xff"} {
			wantFault(t, strings.Repeat(c, n), api.Fault{Err: api.ErrLong})
		}
	}
}

func TestAllKeywords(t *testing.T) {
	if len(keywords()) != 20 {
		t.Fatal("the list itself")
	}
	for _, k := range keywords() {
		n := len(k)
		wantTokens(t, k, []api.Token{key(k, 0), end(n)})
		wantTokens(t, k+" "+k, []api.Token{key(k, 0), key(k, n+1), end(2*n + 1)})
		wantTokens(t, k+"("+k, []api.Token{key(k, 0), sign("(", n), key(k, n+1), end(2*n + 1)})
		for _, other := range []string{k + "x", k + "_", k + "0", "x" + k, strings.ToUpper(k), strings.ToUpper(k[:1]) + k[1:], k + k} {
			wantTokens(t, other, []api.Token{word(other, 0), end(len(other))})
		}
	}
	for _, w := range []string{"i", "shar", "whil", "n", "s", "re", "loa", "assum", "none", "end", "bound"} {
		wantTokens(t, w, []api.Token{word(w, 0), end(len(w))})
	}
}

func TestAllWords(t *testing.T) {
	for _, w := range []string{"a", "z", "A", "Z", "a_", "a__9", "Z0", "aAzZ09_", "x1y2", "if_"} {
		wantTokens(t, w, []api.Token{word(w, 0), end(len(w))})
		wantTokens(t, " "+w+";", []api.Token{word(w, 1), sign(";", 1+len(w)), end(2 + len(w))})
	}
	wantTokens(t, "a b", []api.Token{word("a", 0), word("b", 2), end(3)})
	for _, s := range []string{"_", "_a", "__", "_1"} {
		wantFault(t, s, api.Fault{Err: api.ErrLex})
	}
	wantFault(t, "a _b", api.Fault{Err: api.ErrLex, At: 2})
	wantFault(t, "a\xc3\xa4", api.Fault{Err: api.ErrLex, At: 1})
}

func TestAllSigns(t *testing.T) {
	for _, s := range signs() {
		n := len(s)
		wantTokens(t, s, []api.Token{sign(s, 0), end(n)})
		wantTokens(t, "a"+s+"1", []api.Token{word("a", 0), sign(s, 1), number("1", 1, 1+n), end(2 + n)})
		wantTokens(t, s+" "+s, []api.Token{sign(s, 0), sign(s, n+1), end(2*n + 1)})
	}
}

func TestAllTakesTheLongestSigns(t *testing.T) {
	near := map[string][]string{
		"<==": {"<=", "="}, "&&&": {"&&", "&"}, "|||": {"||", "|"}, "!==": {"!=", "="}, "===": {"==", "="},
		"====": {"==", "=="}, "=!=": {"=", "!="}, "=<=": {"=", "<="}, "<<=": {"<", "<="}, "=<": {"=", "<"},
		"!!=": {"!", "!="}, "!!": {"!", "!"}, "<<": {"<", "<"}, "||||": {"||", "||"}, "|&&|": {"|", "&&", "|"},
		"&|": {"&", "|"}, "|=": {"|", "="}, "&=": {"&", "="}, "+=": {"+", "="}, "^=": {"^", "="}, "--": {"-", "-"},
		"++": {"+", "+"}, "**": {"*", "*"}, "^^": {"^", "^"}, "<-": {"<", "-"}, "=-": {"=", "-"}, "=(": {"=", "("},
		"){": {")", "{"}, "};": {"}", ";"}, ",(": {",", "("},
	}
	for s, parts := range near {
		var want []api.Token
		at := 0
		for _, part := range parts {
			want = append(want, sign(part, at))
			at += len(part)
		}
		wantTokens(t, s, append(want, end(at)))
	}
	wantTokens(t, "< = & & ! =", []api.Token{sign("<", 0), sign("=", 2), sign("&", 4), sign("&", 6), sign("!", 8), sign("=", 10), end(11)})
}

func TestAllNumbers(t *testing.T) {
	wantTokens(t, "0", []api.Token{number("0", 0, 0), end(1)})
	wantTokens(t, "10 0 9", []api.Token{number("10", 10, 0), number("0", 0, 3), number("9", 9, 5), end(6)})
	wantTokens(t, "1234567890", []api.Token{number("1234567890", 1234567890, 0), end(10)})
	wantTokens(t, "4294967296", []api.Token{number("4294967296", 1<<32, 0), end(10)})
	wantTokens(t, "9223372036854775806", []api.Token{number("9223372036854775806", 1<<63-2, 0), end(19)})
	wantTokens(t, "9223372036854775807", []api.Token{number("9223372036854775807", 1<<63-1, 0), end(19)})
	wantTokens(t, "-9223372036854775807", []api.Token{sign("-", 0), number("9223372036854775807", 1<<63-1, 1), end(20)})
	wantTokens(t, "0,0;1//a", []api.Token{number("0", 0, 0), sign(",", 1), number("0", 0, 2), sign(";", 3), number("1", 1, 4), end(8)})
}

func TestAllOfWrongNumbers(t *testing.T) {
	wrong := []string{"9223372036854775808", "9223372036854775810", "10000000000000000000", "18446744073709551615",
		"18446744073709551616", "18446744073709551617", "99999999999999999999999", "00", "01", "000", "09", "00000000000000000001",
		"1a", "1Z", "1_", "0x1", "0_", "12ab34", "1if", "1_000", "1e3", "0b1", "01a"}
	for _, s := range wrong {
		wantFault(t, s, api.Fault{Err: api.ErrLex})
		wantFault(t, s+" #", api.Fault{Err: api.ErrLex})
		wantFault(t, "x = "+s+";", api.Fault{Err: api.ErrLex, At: 4})
		wantFault(t, "a<"+s, api.Fault{Err: api.ErrLex, At: 2})
	}
}

// What stands behind a number is its own matter, unless it is a letter or _ .
func TestAllOfBytesBehindANumber(t *testing.T) {
	wantFault(t, "12#", api.Fault{Err: api.ErrLex, At: 2})
	wantFault(t, "12.5", api.Fault{Err: api.ErrLex, At: 2})
	wantFault(t, "0\xc3\xa4", api.Fault{Err: api.ErrLex, At: 1})
	wantFault(t, "0/1", api.Fault{Err: api.ErrLex, At: 1})
}

func TestAllBlanks(t *testing.T) {
	for _, b := range blanks() {
		wantTokens(t, b, []api.Token{end(1)})
		wantTokens(t, b+"a"+b+b+"1"+b, []api.Token{word("a", 1), number("1", 1, 4), end(6)})
		wantTokens(t, "<"+b+"=", []api.Token{sign("<", 0), sign("=", 2), end(3)})
		wantTokens(t, "1"+b+"a", []api.Token{number("1", 1, 0), word("a", 2), end(3)})
		wantTokens(t, "i"+b+"f", []api.Token{word("i", 0), word("f", 2), end(3)})
	}
}

func TestAllRemarks(t *testing.T) {
	wantTokens(t, "a//b", []api.Token{word("a", 0), end(4)})
	wantTokens(t, "a//", []api.Token{word("a", 0), end(3)})
	wantTokens(t, "a//b\nc", []api.Token{word("a", 0), word("c", 5), end(6)})
	wantTokens(t, "<//=\n=", []api.Token{sign("<", 0), sign("=", 5), end(6)})
	wantTokens(t, ";//1a # 01 \x00\xff //\n//\n}", []api.Token{sign(";", 0), sign("}", 20), end(21)})
	wantTokens(t, "//a\rb\nc", []api.Token{word("c", 6), end(7)})
	wantTokens(t, "///\n1", []api.Token{number("1", 1, 4), end(5)})
	wantFault(t, "//a\n#", api.Fault{Err: api.ErrLex, At: 4})
	wantFault(t, "/", api.Fault{Err: api.ErrLex})
	wantFault(t, "a/ /", api.Fault{Err: api.ErrLex, At: 1})
	wantFault(t, "a /*b*/", api.Fault{Err: api.ErrLex, At: 2})
}

// Each byte, by itself and behind a word, is what the document's lists make of it.
func TestAllOfEachByte(t *testing.T) {
	const letters = "abcdefghijklmnopqrstuvwxyzABCDEFGHIJKLMNOPQRSTUVWXYZ"
	for c := range 256 {
		s := string([]byte{byte(c)})
		switch {
		case strings.Contains(letters, s):
			wantTokens(t, s, []api.Token{word(s, 0), end(1)})
			wantTokens(t, "b"+s, []api.Token{word("b"+s, 0), end(2)})
		case strings.Contains("0123456789", s):
			wantTokens(t, s, []api.Token{number(s, int64(c-'0'), 0), end(1)})
			wantTokens(t, "b"+s, []api.Token{word("b"+s, 0), end(2)})
		case strings.Contains("<+-*&|^!=(){},;", s):
			wantTokens(t, s, []api.Token{sign(s, 0), end(1)})
			wantTokens(t, "b"+s, []api.Token{word("b", 0), sign(s, 1), end(2)})
		case strings.Contains(" \t\n\r", s):
			wantTokens(t, s, []api.Token{end(1)})
			wantTokens(t, "b"+s, []api.Token{word("b", 0), end(2)})
		case s == "_":
			wantFault(t, s, api.Fault{Err: api.ErrLex})
			wantTokens(t, "b"+s, []api.Token{word("b_", 0), end(2)})
		default:
			wantFault(t, s, api.Fault{Err: api.ErrLex})
			wantFault(t, "b"+s, api.Fault{Err: api.ErrLex, At: 1})
			wantFault(t, "b; //\n "+s+"#", api.Fault{Err: api.ErrLex, At: 7})
		}
	}
}

func TestAllTellsTheFirstFault(t *testing.T) {
	wantFault(t, "a = 01 + #;", api.Fault{Err: api.ErrLex, At: 4})
	wantFault(t, "a = # + 01;", api.Fault{Err: api.ErrLex, At: 4})
	wantFault(t, "1 2 3 > 4", api.Fault{Err: api.ErrLex, At: 6})
	wantFault(t, "\"a\"", api.Fault{Err: api.ErrLex})
}

func TestAllLikeThePlainReader(t *testing.T) {
	r := newReader()
	texts("a_019|&=!<-/ \n(#", 4, func(s string) { r.like(t, s) })
	texts("|&=!<+-*^(){},;", 3, func(s string) { r.like(t, s) })
	for _, s := range mixedTexts() {
		r.like(t, s)
	}
	for _, a := range pieces() {
		for _, b := range pieces() {
			for _, c := range pieces() {
				r.like(t, a+b+c)
			}
		}
	}
}

// Bytes of any kind bring no panic, and what the plain reader tells.
func TestAllOfAnyBytes(t *testing.T) {
	r := newReader()
	for seed := range uint64(3000) {
		b := make([]byte, mix(seed)%40)
		for i := range b {
			b[i] = byte(mix(seed<<8 + uint64(i)))
			if seed%2 == 0 {
				b[i] &= 127
			}
		}
		r.like(t, string(b))
	}
}
