package parse

import "cantilever/api"

// end is the Text of the last token, which no other token has.
const end = ""

// A stop is the fault that a rule panics with: it ends the rules around it, too.
type stop api.Fault

// An access is a statement's Kind, and how many expressions stand between its location and its order.
type access struct{ kind, exprs int }

// A grammar is tokens, and how far they have been read. Each rule is a method: it begins at the first token of what it
// reads, and ends at the one behind that.
type grammar struct {
	tokens []api.Token
	at     int
	opened int // brackets, and signs ahead of one, that are open

	levels   []map[string]int // the signs between two, the weakest first
	ahead    map[string]int   // the signs ahead of one
	orders   map[string]int
	accesses map[string]access // those that a register is set to
}

func newGrammar(tokens []api.Token) *grammar {
	return &grammar{
		tokens: tokens,
		levels: []map[string]int{
			{"||": api.OpOr},
			{"&&": api.OpAnd},
			{"==": api.OpEq, "!=": api.OpNe},
			{"<": api.OpLess, "<=": api.OpMost},
			{"|": api.OpBor},
			{"^": api.OpXor},
			{"&": api.OpBand},
			{"+": api.OpPlus, "-": api.OpMinus},
			{"*": api.OpTimes},
		},
		ahead: map[string]int{"-": api.OpNeg, "!": api.OpNot},
		orders: map[string]int{
			"na": api.OrdNa, "rlx": api.OrdRlx, "acq": api.OrdAcq,
			"rel": api.OrdRel, "ar": api.OrdAr, "sc": api.OrdSc,
		},
		accesses: map[string]access{
			"load": {api.StLoad, 0}, "cas": {api.StCas, 2}, "add": {api.StAdd, 1}, "swap": {api.StSwap, 1},
		},
	}
}

// The steps that the rules are made of.

func (g *grammar) token() api.Token { return g.tokens[g.at] }

// is tells whether the next token is this keyword or sign, or the end.
func (g *grammar) is(text string) bool { return g.token().Text == text }

// must ends all rules at the next token, unless it fits.
func (g *grammar) must(fits bool) {
	if !fits {
		g.fail(api.ErrSyntax)
	}
}

func (g *grammar) fail(err api.Errno) { panic(stop{Err: err, At: g.token().At}) }

// next goes on behind the next token, which is not the end.
func (g *grammar) next() api.Token {
	t := g.token()
	g.at++
	return t
}

// take goes on behind the keyword or sign that must come next.
func (g *grammar) take(text string) {
	g.must(g.is(text))
	g.next()
}

// takes goes on behind the keyword or sign, if it comes next, and tells whether it does.
func (g *grammar) takes(text string) bool {
	if !g.is(text) {
		return false
	}
	g.next()
	return true
}

// open goes on behind a bracket, or a sign ahead of one, which must come next, and which is open from there on.
func (g *grammar) open(sign string) {
	g.must(g.is(sign))
	if g.opened == api.MaxOpen {
		g.fail(api.ErrLong)
	}
	g.opened++
	g.next()
}

// close goes on behind the bracket that ends what was opened last.
func (g *grammar) close(sign string) {
	g.take(sign)
	g.opened--
}

func (g *grammar) word() string {
	g.must(g.token().Kind == api.TokWord)
	return g.next().Text
}

func (g *grammar) number() int64 {
	g.must(g.token().Kind == api.TokNum)
	return g.next().Num
}

// The rules of programs.

func (g *grammar) program() api.Program {
	var p api.Program
	for !g.is(end) {
		switch {
		case g.is("shared"), g.is("plain"):
			p.Decls = append(p.Decls, g.decls()...)
		default:
			p.Threads = append(p.Threads, g.thread())
		}
	}
	return p
}

func (g *grammar) thread() []api.Stmt {
	g.take("thread")
	return g.block()
}

func (g *grammar) decls() []api.Decl {
	plain := g.next().Text == "plain"
	l := []api.Decl{g.location(plain)}
	for g.takes(",") {
		l = append(l, g.location(plain))
	}
	g.take(";")
	return l
}

func (g *grammar) location(plain bool) api.Decl {
	d := api.Decl{Name: g.word(), Plain: plain}
	if g.takes("=") {
		d.Value = g.number()
	}
	return d
}

// The rules of statements.

func (g *grammar) block() []api.Stmt {
	g.open("{")
	l := g.stmts("}")
	g.close("}")
	return l
}

// stmts reads as many statements as there are ahead of the sign, or the end.
func (g *grammar) stmts(behind string) []api.Stmt {
	var l []api.Stmt
	for !g.is(behind) {
		l = append(l, g.stmt())
	}
	return l
}

func (g *grammar) stmt() api.Stmt {
	switch {
	case g.takes("if"):
		return g.choice()
	case g.takes("while"):
		return g.guarded(api.StWhile)
	}
	s := g.step()
	g.take(";")
	return s
}

// step reads a statement with no others in it, but for its ; .
func (g *grammar) step() api.Stmt {
	switch {
	case g.takes("store"):
		return g.accessed(access{api.StStore, 1})
	case g.takes("fence"):
		return g.fence()
	case g.takes("assume"):
		return api.Stmt{Kind: api.StAssume, Exprs: []api.Expr{g.bracketed()}}
	case g.takes("assert"):
		return api.Stmt{Kind: api.StAssert, Exprs: []api.Expr{g.bracketed()}}
	}
	return g.setting()
}

// setting reads what sets a register, to what an access tells or to an expression.
func (g *grammar) setting() api.Stmt {
	name := g.word()
	g.take("=")
	s := api.Stmt{Kind: api.StSet}
	if a, ok := g.accesses[g.token().Text]; ok {
		g.next()
		s = g.accessed(a)
	} else {
		s.Exprs = []api.Expr{g.expr()}
	}
	s.Name = name
	return s
}

// accessed reads, behind its keyword, what is done to a location.
func (g *grammar) accessed(a access) api.Stmt {
	s := api.Stmt{Kind: a.kind}
	g.open("(")
	s.Loc = g.word()
	g.take(",")
	for range a.exprs {
		s.Exprs = append(s.Exprs, g.expr())
		g.take(",")
	}
	s.Order = g.order()
	g.close(")")
	return s
}

func (g *grammar) fence() api.Stmt {
	g.open("(")
	s := api.Stmt{Kind: api.StFence, Order: g.order()}
	g.close(")")
	return s
}

func (g *grammar) order() int {
	order, ok := g.orders[g.token().Text]
	g.must(ok)
	g.next()
	return order
}

// guarded reads, behind its keyword, an expression and the block that hangs on it.
func (g *grammar) guarded(kind int) api.Stmt {
	s := api.Stmt{Kind: kind, Exprs: []api.Expr{g.bracketed()}}
	s.Then = g.block()
	return s
}

// choice reads an if, behind that keyword.
func (g *grammar) choice() api.Stmt {
	s := g.guarded(api.StIf)
	if g.takes("else") {
		s.Else = g.otherwise()
	}
	return s
}

func (g *grammar) otherwise() []api.Stmt {
	if g.takes("if") {
		return []api.Stmt{g.choice()}
	}
	return g.block()
}

// The rules of expressions.

func (g *grammar) expr() api.Expr { return g.level(0) }

// level reads what has no signs between two, outside of brackets, but those of the level n and of stronger ones.
func (g *grammar) level(n int) api.Expr {
	if n == len(g.levels) {
		return g.signed()
	}
	left := g.level(n + 1)
	for {
		op, ok := g.levels[n][g.token().Text]
		if !ok {
			return left
		}
		g.next()
		left = api.Expr{Op: op, Kids: []api.Expr{left, g.level(n + 1)}}
	}
}

// signed reads an operand, with the signs ahead of it.
func (g *grammar) signed() api.Expr {
	sign := g.token().Text
	op, ok := g.ahead[sign]
	if !ok {
		return g.operand()
	}
	g.open(sign)
	e := api.Expr{Op: op, Kids: []api.Expr{g.signed()}}
	g.opened--
	return e
}

func (g *grammar) operand() api.Expr {
	switch g.token().Kind {
	case api.TokNum:
		return api.Expr{Op: api.OpNum, Num: g.number()}
	case api.TokWord:
		return api.Expr{Op: api.OpReg, Name: g.word()}
	}
	return g.bracketed()
}

func (g *grammar) bracketed() api.Expr {
	g.open("(")
	e := g.expr()
	g.close(")")
	return e
}
