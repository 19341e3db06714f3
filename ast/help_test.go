package ast_test

import (
	"fmt"
	"math"
	"reflect"
	"regexp"
	"slices"
	"strings"
	"testing"

	"cantilever/api"
	"cantilever/ast"
)

// The document's limits, lists and tables, told once more for the tests.

const (
	maxSize = 2000
	maxNest = 32
)

// A form is what an Op or a Kind has: how many Exprs or Kids, and which other fields.
type form struct {
	number int
	trees  int
	fields string
}

func (f form) has(field string) bool { return slices.Contains(strings.Fields(f.fields), field) }

func ops() []form {
	return []form{{1, 0, "Num"}, {2, 0, "Name"}, {3, 1, ""}, {4, 1, ""}, {5, 2, ""}, {6, 2, ""}, {7, 2, ""}, {8, 2, ""},
		{9, 2, ""}, {10, 2, ""}, {11, 2, ""}, {12, 2, ""}, {13, 2, ""}, {14, 2, ""}, {15, 2, ""}, {16, 2, ""}}
}

func kinds() []form {
	return []form{
		{1, 1, "Name"},
		{2, 0, "Name Loc Order"},
		{3, 1, "Loc Order"},
		{4, 2, "Name Loc Order"},
		{5, 1, "Name Loc Order"},
		{6, 1, "Name Loc Order"},
		{7, 0, "Order"},
		{8, 1, ""},
		{9, 1, ""},
		{10, 1, "Then Else"},
		{11, 1, "Then"},
	}
}

func keywords() []string {
	return []string{"shared", "plain", "thread", "if", "else", "while", "load", "store", "cas", "add",
		"swap", "fence", "assume", "assert", "na", "rlx", "acq", "rel", "ar", "sc"}
}

func words() []string {
	return []string{"r", "x", "Z", "r1", "a_", "a__9", "iff", "If", "IF", "load1", "acq_", "r1x2"}
}

func noWords() []string {
	return append(keywords(), "", " ", "0", "1", "12", "1a", "_", "_a", "a b", " a", "a ", "a\n", "\ta", "a//", "a-b", "-a",
		"(a)", "a;", "=", "a\x00", "\x00", "\xff", "é", "aé", ".", "a.b")
}

// strange are numbers that are no Op, no Kind and no order.
func strange() []int {
	return []int{math.MinInt, -17, -12, -7, -2, -1, 0, 17, 18, 99, 1 << 32, math.MaxInt}
}

// Trees.

func num(n int64) api.Expr { return api.Expr{Op: api.OpNum, Num: n} }

func reg(name string) api.Expr { return api.Expr{Op: api.OpReg, Name: name} }

func op(o int, kids ...api.Expr) api.Expr { return api.Expr{Op: o, Kids: kids} }

func fence() api.Stmt { return api.Stmt{Kind: api.StFence, Order: api.OrdSc} }

func assume(e api.Expr) api.Stmt { return api.Stmt{Kind: api.StAssume, Exprs: []api.Expr{e}} }

func thread(l ...api.Stmt) api.Program { return api.Program{Threads: [][]api.Stmt{l}} }

// chapter is the program of the chapter's examples.
func chapter() api.Program {
	return api.Program{
		Decls: []api.Decl{{Name: "x"}},
		Threads: [][]api.Stmt{{
			{Kind: api.StLoad, Name: "r", Loc: "x", Order: api.OrdAcq},
			{Kind: api.StIf, Exprs: []api.Expr{op(api.OpEq, reg("r"), num(1))}, Then: []api.Stmt{
				{Kind: api.StStore, Loc: "x", Order: api.OrdRel, Exprs: []api.Expr{op(api.OpPlus, reg("r"), num(1))}}}},
		}},
	}
}

// rich is a program that may be, with each Op and each Kind, and something in each place that can have it.
func rich() api.Program {
	p := api.Program{Decls: []api.Decl{{Name: "x", Value: 3}, {Name: "d", Plain: true}, {Name: "e", Plain: true, Value: math.MaxInt64}}}
	var all, none []api.Stmt
	for _, f := range kinds() {
		all = append(all, rightStmt(f))
	}
	for _, f := range ops() {
		none = append(none, assume(op(api.OpMinus, rightExpr(f), op(api.OpNot, rightExpr(f)))))
	}
	p.Threads = [][]api.Stmt{all, nil, none, {
		{Kind: api.StIf, Exprs: []api.Expr{num(0)}, Then: []api.Stmt{fence()}, Else: []api.Stmt{fence(), {Kind: api.StWhile,
			Exprs: []api.Expr{reg("s")}, Then: []api.Stmt{{Kind: api.StIf, Exprs: []api.Expr{reg("q")}, Else: all[:4]}}}}},
		fence(),
	}}
	return cloned(p)
}

// rightExpr is an expression of the form that may be.
func rightExpr(f form) api.Expr {
	e := api.Expr{Op: f.number}
	if f.has("Num") {
		e.Num = 7
	}
	if f.has("Name") {
		e.Name = "a"
	}
	for i := range f.trees {
		e.Kids = append(e.Kids, []api.Expr{reg("b"), num(5)}[i])
	}
	return e
}

// rightStmt is a statement of the form that may be.
func rightStmt(f form) api.Stmt {
	s := api.Stmt{Kind: f.number}
	if f.has("Name") {
		s.Name = "r"
	}
	if f.has("Loc") {
		s.Loc = "x"
	}
	if f.has("Order") {
		s.Order = api.OrdAcq
	}
	for i := range f.trees {
		s.Exprs = append(s.Exprs, []api.Expr{op(api.OpNeg, reg("c")), num(1)}[i])
	}
	if f.has("Then") {
		s.Then = []api.Stmt{fence()}
	}
	if f.has("Else") {
		s.Else = []api.Stmt{assume(num(0))}
	}
	return s
}

// What the calls are to answer, told the plain way, by reflection.

// nodes goes through all expressions and statements of v, and tells how deep each stands.
func nodes(v reflect.Value, deep int, f func(node any, deep int)) {
	switch v.Kind() {
	case reflect.Struct:
		switch node := v.Interface().(type) {
		case api.Expr, api.Stmt:
			deep++
			f(node, deep)
		}
		for i := range v.NumField() {
			nodes(v.Field(i), deep, f)
		}
	case reflect.Slice:
		for i := range v.Len() {
			nodes(v.Index(i), deep, f)
		}
	}
}

func plainSize(of any) (size, deep int) {
	nodes(reflect.ValueOf(of), 0, func(_ any, d int) {
		size++
		deep = max(deep, d)
	})
	return size, deep
}

// plainCheck is what Check of a program, or CheckExpr of an expression, is to answer.
func plainCheck(of any) api.Errno {
	if size, deep := plainSize(of); size > maxSize || deep > maxNest {
		return api.ErrLong
	}
	right := true
	nodes(reflect.ValueOf(of), 0, func(node any, _ int) { right = right && plainRight(node) })
	if p, ok := of.(api.Program); ok {
		for _, d := range p.Decls {
			right = right && plainWord(d.Name) && d.Value >= 0
		}
	}
	if !right {
		return api.ErrArg
	}
	return api.OK
}

var wordForm = regexp.MustCompile(`^[a-zA-Z][a-zA-Z0-9_]*\z`)

func plainWord(s string) bool { return wordForm.MatchString(s) && !slices.Contains(keywords(), s) }

// plainRight tells whether a node, by itself, has what its Op or its Kind has, and nothing else.
func plainRight(node any) bool {
	v := reflect.ValueOf(node)
	forms := kinds()
	if _, ok := node.(api.Expr); ok {
		forms = ops()
	}
	at := slices.IndexFunc(forms, func(f form) bool { return f.number == int(v.Field(0).Int()) })
	if at < 0 {
		return false
	}
	for i := 1; i < v.NumField(); i++ {
		field, name := v.Field(i), v.Type().Field(i).Name
		switch {
		case name == "Exprs" || name == "Kids":
			if field.Len() != forms[at].trees {
				return false
			}
		case !forms[at].has(name):
			if !field.IsZero() && (field.Kind() != reflect.Slice || field.Len() > 0) {
				return false
			}
		case field.Kind() == reflect.String:
			if !plainWord(field.String()) {
				return false
			}
		case name == "Order":
			if field.Int() < 1 || field.Int() > 6 {
				return false
			}
		case name == "Num":
			if field.Int() < 0 {
				return false
			}
		}
	}
	return true
}

// Memory.

// built is v in new memory, each list with so much spare room, which is marked.
func built(v reflect.Value, spare int) reflect.Value {
	made := reflect.New(v.Type()).Elem()
	switch v.Kind() {
	case reflect.Struct:
		for i := range v.NumField() {
			made.Field(i).Set(built(v.Field(i), spare))
		}
	case reflect.Slice:
		if v.IsNil() && spare == 0 {
			break
		}
		list := reflect.MakeSlice(v.Type(), v.Len()+spare, v.Len()+spare)
		for i := range v.Len() {
			list.Index(i).Set(built(v.Index(i), spare))
		}
		for i := range spare {
			scribble(list.Index(v.Len() + i))
		}
		made.Set(list.Slice(0, v.Len()))
	default:
		made.Set(v)
	}
	return made
}

func cloned[T any](v T) T { return built(reflect.ValueOf(v), 0).Interface().(T) }

func roomy[T any](v T) T { return built(reflect.ValueOf(v), 2).Interface().(T) }

// scribble changes all that stands in v, in the lists in it up to the end of their spare room, too.
func scribble(v reflect.Value) {
	switch v.Kind() {
	case reflect.Struct:
		for i := range v.NumField() {
			scribble(v.Field(i))
		}
	case reflect.Slice:
		full := v.Slice(0, v.Cap())
		for i := range full.Len() {
			scribble(full.Index(i))
		}
	default:
		change(v)
	}
}

// change gives a number, a text or a truth another value.
func change(v reflect.Value) {
	switch v.Kind() {
	case reflect.String:
		v.SetString(v.String() + "!")
	case reflect.Bool:
		v.SetBool(!v.Bool())
	default:
		v.SetInt(v.Int() + 1)
	}
}

// everything is all that stands in v as a text, with the lists' spare room.
func everything(v any) string {
	var b strings.Builder
	var write func(v reflect.Value)
	write = func(v reflect.Value) {
		switch v.Kind() {
		case reflect.Struct:
			for i := range v.NumField() {
				write(v.Field(i))
			}
		case reflect.Slice:
			fmt.Fprintf(&b, "[%d:", v.Len())
			full := v.Slice(0, v.Cap())
			for i := range full.Len() {
				write(full.Index(i))
			}
			b.WriteString("]")
		default:
			fmt.Fprintf(&b, "%#v,", v.Interface())
		}
	}
	write(reflect.ValueOf(v))
	return b.String()
}

// places goes through all numbers, texts and truths of v that can be changed, and all its lists.
func places(v reflect.Value, f func(place reflect.Value)) {
	switch v.Kind() {
	case reflect.Struct:
		for i := range v.NumField() {
			places(v.Field(i), f)
		}
	case reflect.Slice:
		f(v)
		for i := range v.Len() {
			places(v.Index(i), f)
		}
	default:
		f(v)
	}
}

// rooms are the pieces of memory in which the lists of v stand, their spare room too.
func rooms(v any) [][2]uintptr {
	var l [][2]uintptr
	places(reflect.ValueOf(v), func(place reflect.Value) {
		if place.Kind() == reflect.Slice && place.Cap() > 0 {
			from := place.Pointer()
			l = append(l, [2]uintptr{from, from + uintptr(place.Cap())*place.Type().Elem().Size()})
		}
	})
	return l
}

// apart tells whether no two of these pieces have anything in common.
func apart(l [][2]uintptr) bool {
	slices.SortFunc(l, func(a, b [2]uintptr) int { return slices.Compare(a[:], b[:]) })
	for i := 1; i < len(l); i++ {
		if l[i][0] < l[i-1][1] {
			return false
		}
	}
	return true
}

// Trees of any shape, made of a number.

// mix is a number that hangs on its seed alone, with bits that look like no rule.
func mix(seed uint64) uint64 {
	seed += 0x9e3779b97f4a7c15
	seed = (seed ^ seed>>30) * 0xbf58476d1ce4e5b9
	seed = (seed ^ seed>>27) * 0x94d049bb133111eb
	return seed ^ seed>>31
}

// A maker makes trees; one in wild of its fields is not as it should be, none if that is 0.
type maker struct {
	seed uint64
	wild int
}

func (m *maker) below(n int) int {
	m.seed++
	return int(mix(m.seed) % uint64(n))
}

func (m *maker) slips() bool { return m.wild > 0 && m.below(m.wild) == 0 }

func (m *maker) word() string {
	if m.slips() {
		return noWords()[m.below(len(noWords()))]
	}
	return words()[m.below(len(words()))]
}

// number is one from least to most, if it is to be there.
func (m *maker) number(is bool, least, most int) int {
	if m.slips() {
		return strange()[m.below(len(strange()))]
	}
	if !is {
		return 0
	}
	return least + m.below(most-least+1)
}

func (m *maker) text(is bool) string {
	if is != m.slips() {
		return m.word()
	}
	return ""
}

func (m *maker) expr(room int) api.Expr {
	f := ops()[m.below(len(ops()))]
	if room < 2 {
		f = ops()[m.below(2)]
	}
	return api.Expr{Op: m.number(true, f.number, f.number), Num: int64(m.number(f.has("Num"), 0, 100)),
		Name: m.text(f.has("Name")), Kids: m.exprs(f.trees, room-1)}
}

func (m *maker) exprs(n, room int) []api.Expr {
	if room > 0 && m.slips() {
		n += m.below(3) - 1
	}
	var l []api.Expr
	for range n {
		l = append(l, m.expr(room))
	}
	return l
}

func (m *maker) stmt(room int) api.Stmt {
	f := kinds()[m.below(len(kinds()))]
	return api.Stmt{Kind: m.number(true, f.number, f.number), Name: m.text(f.has("Name")), Loc: m.text(f.has("Loc")),
		Order: m.number(f.has("Order"), 1, 6), Exprs: m.exprs(f.trees, room-1),
		Then: m.stmts(f.has("Then"), room-1), Else: m.stmts(f.has("Else"), room-1)}
}

func (m *maker) stmts(are bool, room int) []api.Stmt {
	if room < 2 || are == m.slips() {
		return nil
	}
	var l []api.Stmt
	for range m.below(4) {
		l = append(l, m.stmt(room))
	}
	return l
}

func (m *maker) program() api.Program {
	var p api.Program
	for range m.below(4) {
		p.Decls = append(p.Decls, api.Decl{Name: m.word(), Plain: m.below(2) == 0, Value: int64(m.number(true, 0, 9))})
	}
	for range m.below(5) {
		p.Threads = append(p.Threads, m.stmts(true, 2+m.below(6)))
	}
	return p
}

// programs are many that may be, and many more that mostly may not.
func programs() []api.Program {
	l := []api.Program{{}, {Threads: [][]api.Stmt{nil, {}}}, chapter(), rich()}
	for _, wild := range []int{0, 40, 400} {
		for seed := range uint64(700) {
			m := maker{seed: mix(seed) << 12, wild: wild}
			l = append(l, m.program())
		}
	}
	return l
}

// Chains: trees with as many nodes as they are deep.

func chain(n int) api.Expr {
	e := reg("r")
	for range n - 1 {
		e = op(api.OpNeg, e)
	}
	return e
}

// nest is a fence in a chain of statements, each made of what is in it.
func nest(n int, around func(in []api.Stmt) api.Stmt) api.Stmt {
	s := fence()
	for range n - 1 {
		s = around([]api.Stmt{s})
	}
	return s
}

func inThen(in []api.Stmt) api.Stmt {
	return api.Stmt{Kind: api.StIf, Exprs: []api.Expr{num(1)}, Then: in}
}

func inElse(in []api.Stmt) api.Stmt {
	return api.Stmt{Kind: api.StIf, Exprs: []api.Expr{num(1)}, Else: in}
}

func inWhile(in []api.Stmt) api.Stmt {
	return api.Stmt{Kind: api.StWhile, Exprs: []api.Expr{num(1)}, Then: in}
}

// bush is an expression of n nodes, that is not deep.
func bush(n int) api.Expr {
	switch {
	case n == 1:
		return num(1)
	case n%2 == 0:
		return op(api.OpNot, bush(n-1))
	}
	left := (n - 1) / 2
	return op(api.OpPlus, bush(left), bush(n-1-left))
}

// brief is enough of a thing to tell which it is.
func brief(what any) string {
	s := fmt.Sprintf("%+v", what)
	return s[:min(len(s), 200)]
}

func wantCheck(t *testing.T, what any, p api.Program, want api.Errno) {
	t.Helper()
	if got := ast.Check(p); got != want {
		t.Errorf("Check of %s: %d, not %d", brief(what), got, want)
	}
}

// wantStmt holds Check against what it is to answer of a statement, in each place where one can stand.
func wantStmt(t *testing.T, what any, s api.Stmt, want api.Errno) {
	t.Helper()
	l := []api.Stmt{s}
	for _, p := range []api.Program{thread(s), thread(fence(), s, fence()), {Threads: [][]api.Stmt{{fence()}, nil, l}},
		thread(inThen(l)), thread(inElse(l)), thread(inWhile(l)), thread(inElse([]api.Stmt{fence(), inThen(l)}))} {
		wantCheck(t, what, p, want)
	}
}

// wantExpr holds Check and CheckExpr against what they are to answer of an expression, in each place where one can stand.
func wantExpr(t *testing.T, what any, e api.Expr, want api.Errno) {
	t.Helper()
	for _, whole := range []api.Expr{e, op(api.OpNeg, e), op(api.OpAnd, e, num(1)), op(api.OpAnd, num(1), op(api.OpNot, op(api.OpLess, reg("a"), e)))} {
		if got := ast.CheckExpr(whole); got != want {
			t.Errorf("CheckExpr of %s: %d, not %d", brief(what), got, want)
		}
		for _, f := range kinds() {
			for i := range f.trees {
				s := rightStmt(f)
				s.Exprs[i] = whole
				wantStmt(t, what, s, want)
			}
		}
	}
}
