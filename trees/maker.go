package trees

import "cantilever/api"

// Mix is a number that hangs on its seed alone, with bits that look like no rule.
func Mix(seed uint64) uint64 {
	seed += 0x9e3779b97f4a7c15
	seed = (seed ^ seed>>30) * 0xbf58476d1ce4e5b9
	seed = (seed ^ seed>>27) * 0x94d049bb133111eb
	return seed ^ seed>>31
}

// A Maker makes trees of any shape that may be, each time the same ones of the same seed.
type Maker struct{ seed uint64 }

// NewMaker is a maker that makes other trees than those of other seeds.
func NewMaker(seed uint64) *Maker { return &Maker{Mix(seed) << 12} }

// Below is a number from 0 to n - 1.
func (m *Maker) Below(n int) int {
	m.seed++
	return int(Mix(m.seed) % uint64(n))
}

// Word is a name.
func (m *Maker) Word() string {
	words := [...]string{"r", "x", "r1", "Z_9", "iff", "a__", "acq1", "Load"}
	return words[m.Below(len(words))]
}

// Number is a number that an expression or a location can have.
func (m *Maker) Number() int64 {
	numbers := [...]int64{0, 1, 2, 10, 42, 1 << 40, 1<<63 - 1}
	return numbers[m.Below(len(numbers))]
}

// Order is any order.
func (m *Maker) Order() int { return api.OrdNa + m.Below(api.OrdSc) }

// Expr is an expression nested no deeper than room.
func (m *Maker) Expr(room int) api.Expr {
	k := m.Below(20)
	switch {
	case room < 2 || k < 4:
		if m.Below(2) == 0 {
			return Num(m.Number())
		}
		return Reg(m.Word())
	case k < 8:
		return Op(api.OpNeg+k%2, m.Expr(room-1))
	}
	return Op(api.OpOr+m.Below(api.OpTimes-api.OpOr+1), m.Expr(room-1), m.Expr(room-1))
}

// Stmt is a statement with others in it nested no deeper than room.
func (m *Maker) Stmt(room int) api.Stmt {
	e := m.Expr(4)
	kind := api.StSet + m.Below(api.StWhile)
	if room < 2 && kind >= api.StIf {
		kind = api.StFence
	}
	switch kind {
	case api.StSet:
		return Set(m.Word(), e)
	case api.StLoad:
		return Access(kind, m.Word(), m.Word(), m.Order())
	case api.StStore:
		return Access(kind, "", m.Word(), m.Order(), e)
	case api.StCas:
		return Access(kind, m.Word(), m.Word(), m.Order(), e, m.Expr(3))
	case api.StFence:
		return Fence(m.Order())
	case api.StAssume:
		return Assume(e)
	case api.StAssert:
		return Assert(e)
	case api.StIf:
		return If(e, m.Stmts(room-1), m.Stmts(room-1))
	case api.StWhile:
		return While(e, m.Stmts(room-1)...)
	}
	return Access(kind, m.Word(), m.Word(), m.Order(), e)
}

// Stmts are a few statements, or none.
func (m *Maker) Stmts(room int) []api.Stmt {
	var l []api.Stmt
	for range m.Below(4) {
		l = append(l, m.Stmt(room))
	}
	return l
}

// Program is a program of a few locations and threads, or none.
func (m *Maker) Program() api.Program {
	var p api.Program
	for range m.Below(4) {
		p.Decls = append(p.Decls, api.Decl{Name: m.Word(), Plain: m.Below(2) == 0, Value: m.Number()})
	}
	for range m.Below(4) {
		p.Threads = append(p.Threads, m.Stmts(1+m.Below(4)))
	}
	return p
}

// Programs are n of any shape.
func Programs(n int) []api.Program {
	var l []api.Program
	for seed := range n {
		l = append(l, NewMaker(uint64(seed)).Program())
	}
	return l
}
