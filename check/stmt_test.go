package check_test

// Tests of P6.1: Check, what is asked of each statement, and where it stands.

import (
	"fmt"
	"strings"
	"testing"

	"cantilever/api"
	"cantilever/show"
)

// numbered are statements each of which has the register of its own number; the names have as many digits each, so
// that none begins with another one.
const numbered = "r00 = 1; if (r01) { r02 = 1; r03 = load(y, acq); while (r04) { r05 = 1; if (r06) { } else { r07 = 1; } store(y, r08, rel); } r09 = 1; }" +
	" else { if (r10) { } else if (r11) { r12 = 1; } else { r13 = add(y, 1, ar); } assert(1 + r14); } while (! r15) { } assume(r00 + r15);"

// A thread has fewer registers than this has statements: the last of them is told alone.
func TestWhereEachStatementStands(t *testing.T) {
	wantRuns(t, "shared x, y; thread { "+numbered+" }")
	for n := range maxRegs {
		name := fmt.Sprintf("r%02d", n)
		one := strings.Replace(numbered, name, "x", 1)
		all := strings.ReplaceAll(numbered, name, "x")
		for _, thread := range []string{one, all} {
			wantText(t, "shared x, y; thread { "+thread+" }", at(1, n), api.ErrName)
			wantText(t, "shared x, y; thread { "+thread+" } thread { x = 1; }", at(1, n), api.ErrName)
			wantText(t, "shared x, y; thread { "+numbered+" } thread { "+thread+" }", at(2, n), api.ErrName)
			wantText(t, "shared x, y; thread { } thread { } thread { fence(sc); } thread { "+thread+" }", at(4, n), api.ErrName)
			wantText(t, "shared x, y; thread { while (0) { fence(ar); "+thread+" } x = 1; }", at(1, n+2), api.ErrName)
		}
	}
	wantText(t, "shared x, y; thread { "+strings.Replace(numbered, "r00 + r15", "r00 + x", 1)+" }", at(1, 16), api.ErrName)
}

// Of several the first one is told, whatever is wrong with the others.
func TestTheFirstOfSeveral(t *testing.T) {
	for i := range maxRegs {
		for j := range maxRegs {
			first, second := fmt.Sprintf("r%02d", i), fmt.Sprintf("r%02d", j)
			thread := strings.Replace(strings.Replace(numbered, first, "x", 1), second, "y", 1)
			wantText(t, "shared x, y; thread { } thread { "+thread+" } thread { "+thread+" }", at(2, min(i, j)), api.ErrName)
		}
	}
	wantText(t, "shared x; thread { if (1) { fence(rlx); } store(z, 1, sc); }", at(1, 1), api.ErrOrder)
	wantText(t, "shared x; thread { if (1) { } else { store(z, 1, sc); } fence(rlx); }", at(1, 1), api.ErrName)
	wantText(t, "shared x; thread { while (1) { } fence(rlx); store(z, 1, sc); }", at(1, 1), api.ErrOrder)
	wantText(t, "shared x; thread { fence(sc); fence(sc); fence(na); } thread { fence(na); }", at(1, 2), api.ErrOrder)
}

// accesses are statements with a location, an order and a register, each of its own kind, told as a text.
func accesses() map[int]string {
	return map[int]string{
		2: "R = load(L, O);",
		3: "store(L, R, O);",
		4: "R = cas(L, 0, 1, O);",
		5: "R = add(L, 1, O);",
		6: "R = swap(L, 1, O);",
	}
}

// with is a statement's text with its location, order and register.
func with(s, loc, order, name string) string {
	return strings.NewReplacer("L", loc, "O", order, "R", name).Replace(s)
}

func TestLocationsThatAreNone(t *testing.T) {
	for _, s := range accesses() {
		wantRuns(t, "shared x; thread { r = 1; "+with(s, "x", "sc", "r")+" }")
		wantRuns(t, "shared a, b, x; thread { r = 1; "+with(s, "x", "sc", "r")+" }")
		for _, loc := range []string{"y", "X", "xx", "r", "q"} {
			wantText(t, "shared x; thread { r = 1; "+with(s, loc, "sc", "r")+" }", at(1, 1), api.ErrName)
			wantText(t, "thread { r = 1; "+with(s, loc, "sc", "r")+" }", at(1, 1), api.ErrName)
		}
	}
}

// In a program an order is taken just as May tells.
func TestOrdersOfStatements(t *testing.T) {
	for order := 1; order <= 6; order++ {
		for kind, s := range accesses() {
			wantText(t, "shared x; plain d; thread { r = 1; "+with(s, "x", show.Order(order), "r")+" }", orderPlace(kind, order, false), plainMay(kind, order, false))
			wantText(t, "shared x; plain d; thread { r = 1; "+with(s, "d", show.Order(order), "r")+" }", orderPlace(kind, order, true), plainMay(kind, order, true))
		}
		for _, decls := range []string{"", "shared x; ", "plain d; "} {
			wantText(t, decls+"thread { r = 1; fence("+show.Order(order)+"); }", orderPlace(7, order, false), plainMay(7, order, false))
		}
	}
}

// orderPlace is where a fault of the second statement is told, if it is one.
func orderPlace(kind, order int, plain bool) api.Where {
	if plainMay(kind, order, plain) == 0 {
		return at(0, 0)
	}
	return at(1, 1)
}

// The location is asked ahead of the order, and the order ahead of the names.
func TestOrderOfOneStatement(t *testing.T) {
	for kind, s := range accesses() {
		for order := 1; order <= 6; order++ {
			wantText(t, "shared x; plain d; thread { "+with(s, "no", show.Order(order), "d")+" }", at(1, 0), api.ErrName)
			for loc, plain := range map[string]bool{"x": false, "d": true} {
				want := plainMay(kind, order, plain)
				if want == 0 {
					want = api.ErrName
				}
				for _, name := range []string{"x", "d"} {
					wantText(t, "shared x; plain d; thread { "+with(s, loc, show.Order(order), name)+" }", at(1, 0), want)
				}
			}
		}
	}
}

// Wherever a statement names a register: no location may be that.
func TestRegistersThatAreLocations(t *testing.T) {
	for _, s := range []string{
		"Q = 1;", "r = Q;", "r = - Q;", "r = ! ! Q;", "r = 1 + (2 - (3 * Q));", "r = Q == 1 || r;", "r = (((Q)));", "Q = Q;",
		"Q = load(x, acq);", "store(x, Q, rel);", "store(x, 1 & - Q, rel);",
		"Q = cas(x, 1, 2, sc);", "r = cas(x, Q, 2, sc);", "r = cas(x, 1, Q, sc);", "r = cas(x, 1, 1 ^ Q, sc);",
		"Q = add(x, 1, sc);", "r = add(x, Q, sc);", "Q = swap(x, 1, sc);", "r = swap(x, 2 | Q, sc);",
		"assume(Q);", "assume(1 < Q);", "assert(Q);", "assert(Q <= 1);",
		"if (Q) { r = 1; }", "if (Q) { } else { r = 1; }", "if (r && ! Q) { r = 1; }", "while (Q) { r = 1; }", "while (1 != Q) { r = 1; }",
	} {
		wantRuns(t, "shared x; plain d; thread { fence(sc); "+strings.ReplaceAll(s, "Q", "q")+" }")
		for _, name := range []string{"x", "d"} {
			named := strings.ReplaceAll(s, "Q", name)
			wantText(t, "shared x; plain d; thread { fence(sc); "+named+" }", at(1, 1), api.ErrName)
			wantText(t, "shared x; plain d; thread { } thread { if (r) { } else { while (r) { "+named+" } } }", at(2, 2), api.ErrName)
		}
	}
}

// A name deep in an expression counts, as deep as one can be.
func TestRegistersAsDeepAsCanBe(t *testing.T) {
	for deep := range maxNest - 1 {
		for _, s := range []string{
			strings.Repeat("-", deep) + "Q",
			strings.Repeat("1 + (", deep) + "Q" + strings.Repeat(")", deep),
			strings.Repeat("(", deep) + "Q" + strings.Repeat(" < y)", deep),
		} {
			wantRuns(t, "shared x; thread { r = "+strings.ReplaceAll(s, "Q", "q")+"; }")
			wantText(t, "shared x; thread { r = "+strings.ReplaceAll(s, "Q", "x")+"; }", at(1, 0), api.ErrName)
		}
	}
}

// A name in statements that stand in another one is their fault, and behind the fault of that one.
func TestRegistersInBlocks(t *testing.T) {
	wantText(t, "shared x; thread { if (1) { x = 1; } }", at(1, 1), api.ErrName)
	wantText(t, "shared x; thread { if (1) { } else { x = 1; } }", at(1, 1), api.ErrName)
	wantText(t, "shared x; thread { if (1) { fence(sc); } else { x = 1; } }", at(1, 2), api.ErrName)
	wantText(t, "shared x; thread { while (1) { fence(sc); assert(x); } }", at(1, 2), api.ErrName)
	wantText(t, "shared x; thread { if (1) { fence(rlx); x = 1; } }", at(1, 1), api.ErrOrder)
	wantText(t, "shared x; thread { if (x) { fence(rlx); } }", at(1, 0), api.ErrName)
	wantText(t, "shared x; thread { while (1) { while (x) { fence(rlx); } } }", at(1, 1), api.ErrName)
}

// A register may have the name of another thread's, and of no location's that comes later only by its letters.
func TestNamesThatMayBe(t *testing.T) {
	wantRuns(t, "shared x; thread { r = 1; } thread { r = 2; }")
	wantRuns(t, "shared x; thread { X = 1; x1 = 1; xx = 1; x_ = 1; }")
	wantRuns(t, "thread { x = 1; y = x; }")
	wantText(t, "shared x; thread { r = 1; } thread { x = 1; }", at(2, 0), api.ErrName)
	for i, name := range names("x", maxLocs) {
		wantText(t, sharing(names("x", maxLocs)...)+"thread { r = 1; "+name+" = 1; }", at(1, 1), api.ErrName)
		wantText(t, sharing(names("x", maxLocs)...)+"thread { r = "+name+"; "+names("x", maxLocs)[(i+1)%maxLocs]+" = 1; }", at(1, 0), api.ErrName)
	}
}
