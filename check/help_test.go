package check_test

import (
	"fmt"
	"slices"
	"strings"
	"testing"

	"cantilever/api"
	"cantilever/ast"
	"cantilever/check"
	"cantilever/parse"
	"cantilever/trees"
)

// The document's limits, told once more for the tests.

const (
	maxThreads = 4
	maxLocs    = 6
	maxRegs    = 16
	maxSize    = 2000
	maxNest    = 32
)

var (
	num, reg, op, set = trees.Num, trees.Reg, trees.Op, trees.Set
	access, fence     = trees.Access, trees.Fence
	assume, assert    = trees.Assume, trees.Assert
	choice, loop      = trees.If, trees.While
)

func list(l ...api.Stmt) []api.Stmt { return l }

func fences(n int) []api.Stmt { return slices.Repeat(list(fence(api.OrdSc)), n) }

// read is the program of a text.
func read(t *testing.T, text string) api.Program {
	t.Helper()
	p, fault := parse.Parse(text)
	if fault != (api.Fault{}) {
		t.Fatalf("%q is no program: %v", text, fault)
	}
	return p
}

// at is a place in a thread from 1 on, or, of thread 0, among the locations.
func at(thread, stmt int) api.Where { return api.Where{Thread: thread, Stmt: stmt} }

// What the calls are to answer, told another way: all that is wrong is gathered, each with the order in which it is
// asked, and the least of these counts.

// A problem is what may not be, and where.
type problem struct {
	asked [4]int
	where api.Where
	err   api.Errno
}

func plainCheck(p api.Program) (api.Where, api.Errno) {
	if err := ast.Check(p); err != 0 {
		return at(0, 0), err
	}
	l := slices.Concat(countProblems(p), stmtProblems(p))
	if len(l) == 0 {
		return at(0, 0), 0
	}
	first := slices.MinFunc(l, func(a, b problem) int { return slices.Compare(a.asked[:], b.asked[:]) })
	return first.where, first.err
}

func countProblems(p api.Program) []problem {
	var l []problem
	if n := len(p.Threads); n == 0 || n > maxThreads || len(p.Decls) > maxLocs {
		l = append(l, problem{[4]int{1}, at(0, 0), 3})
	}
	for i, d := range p.Decls {
		for _, ahead := range p.Decls[:i] {
			if d.Name == ahead.Name {
				l = append(l, problem{[4]int{2, i}, at(0, i), 6})
			}
		}
	}
	for i, thread := range p.Threads {
		if len(plainRegs(thread)) > maxRegs {
			l = append(l, problem{[4]int{4, i}, at(i+1, 0), 3})
		}
	}
	return l
}

func stmtProblems(p api.Program) []problem {
	plain := map[string]bool{}
	for _, d := range p.Decls {
		plain[d.Name] = d.Plain
	}
	var l []problem
	for i, thread := range p.Threads {
		for n, s := range flat(thread) {
			note := func(step int, err api.Errno) {
				l = append(l, problem{[4]int{3, i, n, step}, at(i+1, n), err})
			}
			if _, ok := plain[s.Loc]; s.Loc != "" && !ok {
				note(0, 6)
			}
			if err := plainMay(s.Kind, s.Order, plain[s.Loc]); s.Order != 0 && err != 0 {
				note(1, err)
			}
			for _, name := range ownNames(s) {
				if _, ok := plain[name]; ok {
					note(2, 6)
				}
			}
		}
	}
	return l
}

// plainMay is what May is to answer: a row of answers for each Kind, from na to sc, of a location that is not plain, and of a plain one.
func plainMay(kind, order int, plain bool) api.Errno {
	rows := map[int][2]string{
		2: {"K..OO.", ".KKKKK"},
		3: {"K.O.O.", ".KKKKK"},
		4: {"K.....", "KKKKKK"},
		5: {"K.....", "KKKKKK"},
		6: {"K.....", "KKKKKK"},
		7: {"OO....", "OO...."},
	}
	row, ok := rows[kind]
	if !ok {
		return 2
	}
	if order < 1 || order > 6 {
		return 7
	}
	letters := row[0]
	if plain {
		letters = row[1]
	}
	return map[byte]api.Errno{'.': 0, 'O': 7, 'K': 8}[letters[order-1]]
}

// flat are all statements of l in the order of their numbers.
func flat(l []api.Stmt) []api.Stmt {
	var all []api.Stmt
	for _, s := range l {
		all = append(all, s)
		all = append(all, flat(s.Then)...)
		all = append(all, flat(s.Else)...)
	}
	return all
}

// ownNames are the registers of s, without those of the statements in it.
func ownNames(s api.Stmt) []string {
	var l []string
	if s.Name != "" {
		l = append(l, s.Name)
	}
	var each func(exprs []api.Expr)
	each = func(exprs []api.Expr) {
		for _, e := range exprs {
			if e.Op == 2 {
				l = append(l, e.Name)
			}
			each(e.Kids)
		}
	}
	each(s.Exprs)
	return l
}

// plainRegs are the registers of a thread, rising.
func plainRegs(thread []api.Stmt) []string {
	var l []string
	for _, s := range flat(thread) {
		l = append(l, ownNames(s)...)
	}
	slices.Sort(l)
	return slices.Compact(l)
}

// plainTables are the tables of a program that may be run.
func plainTables(p api.Program) api.Tables {
	t := api.Tables{Locs: slices.Clone(p.Decls)}
	for _, thread := range p.Threads {
		t.Regs = append(t.Regs, plainRegs(thread))
	}
	return t
}

func sameTables(a, b api.Tables) bool {
	return slices.Equal(a.Locs, b.Locs) && slices.EqualFunc(a.Regs, b.Regs, slices.Equal)
}

// brief is enough of a thing to tell which it is.
func brief(what any) string {
	s := fmt.Sprintf("%+v", what)
	return s[:min(len(s), 400)]
}

// wantCheck holds Check against its answer, and Tables, too: the program's tables, or the same error without any.
func wantCheck(t *testing.T, p api.Program, where api.Where, err api.Errno) {
	t.Helper()
	if gotWhere, got := check.Check(p); gotWhere != where || got != err {
		t.Errorf("Check of %s: %v, %d, not %v, %d", brief(p), gotWhere, got, where, err)
	}
	var tables api.Tables
	if err == 0 {
		tables = plainTables(p)
	}
	if gotTables, got := check.Tables(p); !sameTables(gotTables, tables) || got != err {
		t.Errorf("Tables of %s: %v, %d, not %v, %d", brief(p), gotTables, got, tables, err)
	}
}

func wantText(t *testing.T, text string, where api.Where, err api.Errno) {
	t.Helper()
	p := read(t, text)
	if gotWhere, got := check.Check(p); gotWhere != where || got != err {
		t.Errorf("Check of %q: %v, %d, not %v, %d", text, gotWhere, got, where, err)
	}
	wantCheck(t, p, where, err)
}

func wantRuns(t *testing.T, text string) {
	t.Helper()
	wantText(t, text, at(0, 0), 0)
}

// names are n of them, which all begin with that.
func names(begin string, n int) []string {
	var l []string
	for i := range n {
		l = append(l, fmt.Sprintf("%s%02d", begin, i))
	}
	return l
}

// sharing is a text that tells locations of these names.
func sharing(names ...string) string { return "shared " + strings.Join(names, ", ") + "; " }

// setting is a text of statements, one to each of these names.
func setting(names ...string) string { return strings.Join(names, " = 0; ") + " = 0; " }
