package check_test

// Tests of P6.1: Tables, Loc and Reg.

import (
	"math"
	"slices"
	"testing"

	"cantilever/api"
	"cantilever/check"
	"cantilever/trees"
)

func tables(t *testing.T, text string) api.Tables {
	t.Helper()
	got, err := check.Tables(read(t, text))
	if err != api.OK {
		t.Fatalf("Tables of %q: %d", text, err)
	}
	return got
}

func wantTables(t *testing.T, text string, locs []api.Decl, regs ...[]string) {
	t.Helper()
	if got, want := tables(t, text), (api.Tables{Locs: locs, Regs: regs}); !sameTables(got, want) {
		t.Errorf("Tables of %q: %v, not %v", text, got, want)
	}
}

func TestTables(t *testing.T) {
	wantTables(t, "thread { }", nil, nil)
	wantTables(t, "thread { } thread { r = 1; } thread { }", nil, nil, []string{"r"}, nil)
	// Locations stand as they were told, not by their names; each with its kind and its number.
	wantTables(t, "shared z = 3, a; plain m = 9223372036854775807; shared b = 0; plain A; thread { }",
		[]api.Decl{{Name: "z", Value: 3}, {Name: "a"}, {Name: "m", Plain: true, Value: math.MaxInt64}, {Name: "b"}, {Name: "A", Plain: true}}, nil)
	// Registers rise by their bytes, each once, those of each thread alone.
	wantTables(t, "shared x; thread { s = r; b = load(x, acq); r = b + c; if (Z) { a10 = 1; } else { a9 = 1; while (a_) { assert(aa); } } }"+
		" thread { q = 1; } thread { store(x, t, sc); r = cas(x, v, u, sc); }",
		[]api.Decl{{Name: "x"}}, []string{"Z", "a10", "a9", "a_", "aa", "b", "c", "r", "s"}, []string{"q"}, []string{"r", "t", "u", "v"})
	wantTables(t, "thread { "+setting(names("r", maxRegs)...)+"} thread { } thread { } thread { r = 1; }", nil, names("r", maxRegs), nil, nil, []string{"r"})
}

// Beside an error there are no tables.
func TestTablesOfProgramsThatMayNotBeRun(t *testing.T) {
	for text, want := range map[string]api.Errno{
		"":                               api.ErrLong,
		"shared x, x; thread { r = 1; }": api.ErrName,
		"shared x; thread { r = 1; } thread { x = 1; }":                      api.ErrName,
		"shared x; thread { r = 1; fence(na); }":                             api.ErrOrder,
		"plain x; thread { r = add(x, 1, sc); }":                             api.ErrKind,
		"thread { " + setting(names("r", maxRegs+1)...) + "}":                api.ErrLong,
		sharing(names("x", maxLocs+1)...) + "thread { r = 1; }":              api.ErrLong,
		"thread { r = 1; } thread { } thread { } thread { } " + "thread { }": api.ErrLong,
	} {
		got, err := check.Tables(read(t, text))
		if err != want || len(got.Locs) != 0 || len(got.Regs) != 0 {
			t.Errorf("Tables of %q: %v, %d, not %d", text, got, err, want)
		}
	}
	got, err := check.Tables(api.Program{Decls: []api.Decl{{Name: "x"}}, Threads: [][]api.Stmt{{set("r", num(-1))}}})
	if err != api.ErrArg || len(got.Locs) != 0 || len(got.Regs) != 0 {
		t.Error(got, err)
	}
}

func wantLoc(t *testing.T, of api.Tables, name string, want int) {
	t.Helper()
	if got := check.Loc(of, name); got != want {
		t.Errorf("Loc of %v, %q: %d, not %d", of, name, got, want)
	}
}

func wantReg(t *testing.T, of api.Tables, thread int, name string, want int) {
	t.Helper()
	if got := check.Reg(of, thread, name); got != want {
		t.Errorf("Reg of %v, %d, %q: %d, not %d", of, thread, name, got, want)
	}
}

func TestLocAndReg(t *testing.T) {
	of := tables(t, "shared z; plain d = 4; shared a; thread { s = r; q = 1; } thread { } thread { r = 1; p = 1; s = 1; t = 1; }")
	for i, name := range []string{"z", "d", "a"} {
		wantLoc(t, of, name, i)
	}
	for i, name := range []string{"q", "r", "s"} {
		wantReg(t, of, 1, name, i)
	}
	for i, name := range []string{"p", "r", "s", "t"} {
		wantReg(t, of, 3, name, i)
	}
	for _, name := range []string{"", " ", "x", "Z", "zz", "z ", "r", "q", "p", "aa", "load", "\x00", "\xff"} {
		wantLoc(t, of, name, -1)
	}
	for _, name := range []string{"", "z", "d", "a", "p", "t", "R", "rr", "r ", "\x00"} {
		wantReg(t, of, 1, name, -1)
	}
	for _, name := range []string{"", "z", "p", "q", "r", "s", "t"} {
		wantReg(t, of, 2, name, -1)
		for _, thread := range append(strange(), 4) {
			if thread != 3 {
				wantReg(t, of, thread, name, -1)
			}
		}
	}
}

// Each name of a program is found where its table has it, and nowhere else.
func TestLocAndRegOfAnyProgram(t *testing.T) {
	for _, p := range trees.Runnables(300) {
		of, err := check.Tables(p)
		if err != api.OK {
			t.Fatal(err)
		}
		for i, d := range p.Decls {
			wantLoc(t, of, d.Name, i)
		}
		for i, thread := range p.Threads {
			mine := plainRegs(thread)
			for _, name := range []string{"r", "x", "r1", "Z_9", "iff", "a__", "acq1", "Load", "x0", "no", ""} {
				wantReg(t, of, i+1, name, slices.Index(mine, name))
			}
		}
	}
}

// Tables that Tables would not make: nothing, lists that do not rise, names twice, empty ones, too many of them.
func TestTablesThatWereNotMade(t *testing.T) {
	wantLoc(t, api.Tables{}, "x", -1)
	wantLoc(t, api.Tables{}, "", -1)
	for _, thread := range append(strange(), 1, 2, 3) {
		wantReg(t, api.Tables{}, thread, "x", -1)
		wantReg(t, api.Tables{}, thread, "", -1)
	}
	odd := api.Tables{
		Locs: []api.Decl{{Name: "y"}, {Name: "x"}, {Name: "y", Plain: true}, {}, {Name: "load", Value: -1}},
		Regs: [][]string{{"z", "a", "", "a", "m"}, nil, {}, {"y"}, {"5"}},
	}
	for i, name := range []string{"y", "x", "", "load"} {
		wantLoc(t, odd, name, []int{0, 1, 3, 4}[i])
	}
	for i, name := range []string{"z", "a", "", "m", "y"} {
		wantReg(t, odd, 1, name, []int{0, 1, 2, 4, -1}[i])
		wantReg(t, odd, 2, name, -1)
		wantReg(t, odd, 3, name, -1)
	}
	wantReg(t, odd, 4, "y", 0)
	wantReg(t, odd, 5, "5", 0)
	wantReg(t, odd, 6, "5", -1)
	many := api.Tables{Regs: slices.Repeat([][]string{names("r", 500)}, 50)}
	for _, name := range names("x", 300) {
		many.Locs = append(many.Locs, api.Decl{Name: name})
	}
	wantLoc(t, many, "x299", 299)
	wantReg(t, many, 50, "r499", 499)
	wantReg(t, many, 51, "r499", -1)
}
