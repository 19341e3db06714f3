package parse_test

// What the calls are to answer, told another way: a token can be gone on with if the chapter's grammar, as a list of
// alternatives, lets some text begin so; brackets and signs ahead of one that are open are a stack; and trees are made
// by parting tokens at the weakest sign.

import (
	"slices"
	"strings"
	"testing"

	"cantilever/api"
	"cantilever/ast"
	"cantilever/lex"
	"cantilever/parse"
	"cantilever/trees"
)

// An alternative is a rule's name, and what may stand for it: names of rules, with a capital, and tokens.
type alternative []string

func grammar() []alternative {
	rules := [][2]string{
		{"Program", "Part | Program Part"},
		{"Part", "shared Inits ; | plain Inits ; | thread Block"},
		{"Inits", "Init | Inits , Init"},
		{"Init", "word | word = number"},
		{"Block", "{ } | { Stmts }"},
		{"Stmts", "Stmt | Stmts Stmt"},
		{"Stmt", "word = Access ; | word = Expr ; | store ( word , Expr , Order ) ; | fence ( Order ) ; | assume ( Expr ) ; " +
			"| assert ( Expr ) ; | If | while ( Expr ) Block"},
		{"If", "if ( Expr ) Block | if ( Expr ) Block else Block | if ( Expr ) Block else If"},
		{"Access", "load ( word , Order ) | cas ( word , Expr , Expr , Order ) | add ( word , Expr , Order ) | swap ( word , Expr , Order )"},
		{"Order", "na | rlx | acq | rel | ar | sc"},
		{"Expr", "One | Expr Between One"},
		{"One", "number | word | ( Expr ) | - One | ! One"},
	}
	var l []alternative
	for _, rule := range rules {
		for part := range strings.SplitSeq(rule[1], " | ") {
			l = append(l, append(alternative{rule[0]}, strings.Fields(part)...))
		}
	}
	for _, b := range betweens() {
		l = append(l, alternative{"Between", b.Sign})
	}
	return l
}

// An item is how far an alternative has come, and from which token on.
type item struct{ rule, dot, from int }

// A way goes along tokens, as long as some text begins so.
type way struct {
	rules []alternative
	start string
	sets  [][]item
}

func newWay(rules []alternative, start string) *way {
	w := &way{rules: rules, start: start, sets: [][]item{nil}}
	w.expect(start, 0)
	w.close()
	return w
}

func (w *way) last() *[]item { return &w.sets[len(w.sets)-1] }

func (w *way) add(i item) {
	if !slices.Contains(*w.last(), i) {
		*w.last() = append(*w.last(), i)
	}
}

func (w *way) expect(name string, from int) {
	for r, rule := range w.rules {
		if rule[0] == name {
			w.add(item{r, 1, from})
		}
	}
}

// next is what an item has next, nothing at its end.
func (w *way) next(i item) string {
	if rule := w.rules[i.rule]; i.dot < len(rule) {
		return rule[i.dot]
	}
	return ""
}

// close adds what begins, and what has ended, at the place where the tokens have come to.
func (w *way) close() {
	here := len(w.sets) - 1
	for k := 0; k < len(*w.last()); k++ {
		i := (*w.last())[k]
		if next := w.next(i); next != "" {
			w.expect(next, here)
			continue
		}
		for _, back := range w.sets[i.from] {
			if w.next(back) == w.rules[i.rule][0] {
				w.add(item{back.rule, back.dot + 1, back.from})
			}
		}
	}
}

// goes goes on with a token, if a text can.
func (w *way) goes(symbol string) bool {
	var on []item
	for _, i := range *w.last() {
		if w.next(i) == symbol {
			on = append(on, item{i.rule, i.dot + 1, i.from})
		}
	}
	if len(on) == 0 {
		return false
	}
	w.sets = append(w.sets, on)
	w.close()
	return true
}

// ends tells whether a text may end here.
func (w *way) ends() bool {
	if len(w.sets) == 1 {
		return w.start != "Expr"
	}
	return slices.ContainsFunc(*w.last(), func(i item) bool {
		return w.next(i) == "" && i.from == 0 && w.rules[i.rule][0] == w.start
	})
}

// A stack is the brackets, and the signs ahead of one, that are open.
type stack struct {
	open []string
	prev string
}

func isSignAhead(s string) bool { return s == "-" || s == "!" }

// puts takes a token that may come next, and tells whether it is one of which too many are open.
func (s *stack) puts(symbol string) bool {
	operand := s.prev == "word" || s.prev == "number" || s.prev == ")"
	s.prev = symbol
	switch {
	case symbol == "(", symbol == "{", symbol == "!", symbol == "-" && !operand:
		s.open = append(s.open, symbol)
		return len(s.open) > maxOpen
	case symbol == ")", symbol == "}":
		s.open = s.open[:len(s.open)-1]
	}
	for symbol != "}" && len(s.open) > 0 && isSignAhead(s.open[len(s.open)-1]) && (symbol == ")" || symbol == "word" || symbol == "number") {
		s.open = s.open[:len(s.open)-1]
	}
	return false
}

func symbol(t api.Token) string {
	switch t.Kind {
	case api.TokWord:
		return "word"
	case api.TokNum:
		return "number"
	}
	return t.Text
}

// plainFault is the first fault of the text, but for what is told of its tree, and else its tokens.
func plainFault(rules []alternative, start, text string) ([]api.Token, api.Fault) {
	tokens, fault := lex.All(text)
	if fault != (api.Fault{}) {
		return nil, fault
	}
	w := newWay(rules, start)
	var s stack
	for _, t := range tokens {
		if t.Kind == api.TokEnd && w.ends() {
			break
		}
		if t.Kind == api.TokEnd || !w.goes(symbol(t)) {
			return nil, api.Fault{Err: 5, At: t.At}
		}
		if s.puts(symbol(t)) {
			return nil, api.Fault{Err: 3, At: t.At}
		}
	}
	return tokens[:len(tokens)-1], api.Fault{}
}

// Trees of tokens that fit the grammar.

// parted parts tokens at those of these texts that stand in no brackets.
func parted(l []api.Token, at string) [][]api.Token {
	var parts [][]api.Token
	deep, from := 0, 0
	for i, t := range l {
		switch {
		case t.Text == "(":
			deep++
		case t.Text == ")":
			deep--
		case t.Text == at && deep == 0:
			parts = append(parts, l[from:i])
			from = i + 1
		}
	}
	return append(parts, l[from:])
}

// bracketed is what stands in the brackets with which tokens begin, and what stands behind them.
func bracketed(l []api.Token) (in, behind []api.Token) {
	deep := 0
	for i, t := range l {
		switch t.Text {
		case "(", "{":
			deep++
		case ")", "}":
			deep--
			if deep == 0 {
				return l[1:i], l[i+1:]
			}
		}
	}
	panic("brackets")
}

// plainExpr parts an expression at the last one of its weakest signs.
func plainExpr(l []api.Token) api.Expr {
	best, at := trees.Between{Strength: 10}, -1
	deep := 0
	for i, t := range l {
		switch t.Text {
		case "(":
			deep++
		case ")":
			deep--
		}
		k := slices.IndexFunc(betweens(), func(b trees.Between) bool { return b.Sign == t.Text })
		if deep > 0 || k < 0 || i == 0 || l[i-1].Kind == api.TokSign && l[i-1].Text != ")" {
			continue
		}
		if b := betweens()[k]; b.Strength <= best.Strength {
			best, at = b, i
		}
	}
	switch first := l[0]; {
	case at > 0:
		return op(best.Op, plainExpr(l[:at]), plainExpr(l[at+1:]))
	case first.Text == "-":
		return op(3, plainExpr(l[1:]))
	case first.Text == "!":
		return op(4, plainExpr(l[1:]))
	case first.Text == "(":
		in, _ := bracketed(l)
		return plainExpr(in)
	case first.Kind == api.TokNum:
		return num(first.Num)
	default:
		return reg(first.Text)
	}
}

func plainStmts(l []api.Token) []api.Stmt {
	var made []api.Stmt
	for len(l) > 0 {
		var s api.Stmt
		if text := l[0].Text; text == "if" || text == "while" {
			s, l = plainBranch(l)
		} else {
			k := slices.IndexFunc(l, func(t api.Token) bool { return t.Text == ";" })
			s, l = plainStep(l[:k]), l[k+1:]
		}
		made = append(made, s)
	}
	return made
}

// plainBranch is the if or the while with which tokens begin, and what stands behind it.
func plainBranch(l []api.Token) (api.Stmt, []api.Token) {
	s := api.Stmt{Kind: map[string]int{"if": 10, "while": 11}[l[0].Text]}
	in, l := bracketed(l[1:])
	s.Exprs = []api.Expr{plainExpr(in)}
	in, l = bracketed(l)
	s.Then = plainStmts(in)
	switch {
	case s.Kind == 11 || len(l) == 0 || l[0].Text != "else":
	case l[1].Text == "if":
		var other api.Stmt
		other, l = plainBranch(l[1:])
		s.Else = []api.Stmt{other}
	default:
		in, l = bracketed(l[1:])
		s.Else = plainStmts(in)
	}
	return s, l
}

// plainStep is a statement without others in it.
func plainStep(l []api.Token) api.Stmt {
	var s api.Stmt
	kinds := map[string]int{"load": 2, "store": 3, "cas": 4, "add": 5, "swap": 6, "fence": 7, "assume": 8, "assert": 9}
	if l[0].Kind == api.TokWord {
		s.Name = l[0].Text
		l = l[2:]
	}
	s.Kind = kinds[l[0].Text]
	if s.Kind == 0 {
		s.Kind = 1
		s.Exprs = []api.Expr{plainExpr(l)}
		return s
	}
	in, _ := bracketed(l[1:])
	args := parted(in, ",")
	if s.Kind < 7 {
		s.Loc = args[0][0].Text
		args = args[1:]
	}
	if s.Kind <= 7 {
		s.Order = slices.Index(orders(), args[len(args)-1][0].Text)
		args = args[:len(args)-1]
	}
	for _, a := range args {
		s.Exprs = append(s.Exprs, plainExpr(a))
	}
	return s
}

func plainProgram(l []api.Token) api.Program {
	var p api.Program
	for len(l) > 0 {
		if l[0].Text == "thread" {
			var in []api.Token
			in, l = bracketed(l[1:])
			p.Threads = append(p.Threads, plainStmts(in))
			continue
		}
		k := slices.IndexFunc(l, func(t api.Token) bool { return t.Text == ";" })
		for _, init := range parted(l[1:k], ",") {
			d := api.Decl{Name: init[0].Text, Plain: l[0].Text == "plain"}
			if len(init) > 1 {
				d.Value = init[2].Num
			}
			p.Decls = append(p.Decls, d)
		}
		l = l[k+1:]
	}
	return p
}

// like holds each call against the plain one.
func like(t *testing.T, rules []alternative, s string) {
	t.Helper()
	likeProgram(t, rules, s)
	likeStmts(t, rules, s)
	likeExpr(t, rules, s)
}

func likeProgram(t *testing.T, rules []alternative, s string) {
	t.Helper()
	tokens, fault := plainFault(rules, "Program", s)
	if fault == (api.Fault{}) {
		want := plainProgram(tokens)
		if !tooGreat(want) {
			wantProgram(t, s, want)
			return
		}
		fault.Err = 3
	}
	wantFault(t, s, fault.Err, fault.At)
}

func likeStmts(t *testing.T, rules []alternative, s string) {
	t.Helper()
	tokens, fault := plainFault(rules, "Stmts", s)
	if fault == (api.Fault{}) {
		want := plainStmts(tokens)
		if !tooGreat(want) {
			wantStmts(t, s, want...)
			return
		}
		fault.Err = 3
	}
	wantStmtsFault(t, s, fault.Err, fault.At)
}

func likeExpr(t *testing.T, rules []alternative, s string) {
	t.Helper()
	tokens, fault := plainFault(rules, "Expr", s)
	if fault == (api.Fault{}) {
		want := plainExpr(tokens)
		if !tooGreat(want) {
			wantExpr(t, s, want)
			return
		}
		fault.Err = 3
	}
	wantExprFault(t, s, fault.Err, fault.At)
}

// Each token of a text left out, told twice, put in its neighbour's place, or another one in its place or ahead of it.
func TestLikeThePlainOneNextToPrograms(t *testing.T) {
	rules := grammar()
	for _, s := range samples() {
		l := texts(s)
		like(t, rules, s)
		for i := range l {
			likeProgram(t, rules, strings.Join(l[:i], " "))
			likeProgram(t, rules, strings.Join(slices.Delete(slices.Clone(l), i, i+1), " "))
			likeProgram(t, rules, strings.Join(slices.Insert(slices.Clone(l), i, l[i]), " "))
			if i > 0 {
				swapped := slices.Clone(l)
				swapped[i-1], swapped[i] = l[i], l[i-1]
				likeProgram(t, rules, strings.Join(swapped, " "))
			}
			for _, other := range things() {
				likeProgram(t, rules, strings.Join(slices.Replace(slices.Clone(l), i, i+1, other), " "))
				likeProgram(t, rules, strings.Join(slices.Insert(slices.Clone(l), i, other), " "))
			}
		}
		for _, other := range things() {
			likeProgram(t, rules, s+" "+other)
		}
	}
}

// The same of statements by themselves.
func TestLikeThePlainOneNextToStmts(t *testing.T) {
	rules := grammar()
	for _, s := range samples() {
		if !strings.HasPrefix(s, "thread { ") {
			continue
		}
		s = strings.TrimSuffix(strings.TrimPrefix(s, "thread { "), "}")
		l := texts(s)
		like(t, rules, s)
		for i := range l {
			likeStmts(t, rules, strings.Join(l[:i], " "))
			likeStmts(t, rules, strings.Join(slices.Delete(slices.Clone(l), i, i+1), " "))
			for _, other := range things() {
				likeStmts(t, rules, strings.Join(slices.Insert(slices.Clone(l), i, other), " "))
			}
		}
		for _, other := range things() {
			likeStmts(t, rules, s+" "+other)
		}
	}
}

// All short texts of all tokens, and longer ones of those that matter in expressions.
func TestLikeThePlainOneOnShortTexts(t *testing.T) {
	rules := grammar()
	like(t, rules, "")
	for _, a := range things() {
		like(t, rules, a)
		for _, b := range things() {
			like(t, rules, a+" "+b)
		}
	}
	layer := []string{""}
	for range 5 {
		var longer []string
		for _, s := range layer {
			for _, piece := range strings.Fields("a 1 ( ) - ! * ||") {
				longer = append(longer, s+" "+piece)
			}
		}
		layer = longer
		for _, s := range layer {
			likeExpr(t, rules, s)
		}
	}
}

// Programs of any shape, as they are and with some tokens changed.
func TestLikeThePlainOneOnAnyPrograms(t *testing.T) {
	rules := grammar()
	for i, p := range programs() {
		s := programText(p)
		likeProgram(t, rules, s)
		l := texts(s)
		m := newMaker(uint64(i))
		for k := 0; k < 3 && len(l) > 0; k++ {
			l[m.Below(len(l))] = things()[m.Below(len(things()))]
			likeProgram(t, rules, strings.Join(l, " "))
		}
	}
}

// Expressions of any signs, without brackets and with some.
func TestLikeThePlainOneOnAnyExprs(t *testing.T) {
	rules := grammar()
	for seed := range uint64(4000) {
		m := newMaker(seed)
		likeExpr(t, rules, strings.Join(anyExpr(m, 4), []string{"", " ", "\n"}[seed%2+1]))
	}
}

// anyExpr is the tokens of an expression, each with signs ahead of it and brackets where a number tells.
func anyExpr(m *trees.Maker, room int) []string {
	var l []string
	for n := range 1 + m.Below(6) {
		if n > 0 {
			l = append(l, betweens()[m.Below(12)].Sign)
		}
		for m.Below(4) == 0 {
			l = append(l, aheads()[m.Below(2)].Sign)
		}
		switch {
		case room > 0 && m.Below(3) == 0:
			l = append(append(append(l, "("), anyExpr(m, room-1)...), ")")
		case m.Below(2) == 0:
			l = append(l, m.Word())
		default:
			l = append(l, "7")
		}
	}
	return l
}

// The plain one itself: what a maker makes is read as it is.
func TestThePlainOne(t *testing.T) {
	rules := grammar()
	read := 0
	for _, p := range programs() {
		tokens, fault := plainFault(rules, "Program", programText(p))
		if fault != (api.Fault{}) || !ast.Same(plainProgram(tokens), p) {
			t.Fatal(programText(p), fault)
		}
		if got, _ := parse.Parse(programText(p)); ast.Same(got, p) && !tooGreat(p) {
			read++
		}
	}
	if read < 400 {
		t.Error("the programs themselves", read)
	}
}
