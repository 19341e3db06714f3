package trees

import (
	"strconv"

	"cantilever/api"
)

// Runnable is a program that may be run, of up to six locations and one to four threads.
func (m *Maker) Runnable() api.Program {
	var p api.Program
	for i := range m.Below(7) {
		// No register has such a name.
		p.Decls = append(p.Decls, api.Decl{Name: "x" + strconv.Itoa(i), Plain: m.Below(3) == 0, Value: m.Number()})
	}
	for range 1 + m.Below(4) {
		p.Threads = append(p.Threads, m.mended(p.Decls, m.Stmts(1+m.Below(4))))
	}
	return p
}

// Runnables are n programs that may be run.
func Runnables(n int) []api.Program {
	var l []api.Program
	for seed := range n {
		l = append(l, NewMaker(uint64(seed)).Runnable())
	}
	return l
}

// mended is l with locations of these, and orders that go with them.
func (m *Maker) mended(decls []api.Decl, l []api.Stmt) []api.Stmt {
	var made []api.Stmt
	for _, s := range l {
		s.Then, s.Else = m.mended(decls, s.Then), m.mended(decls, s.Else)
		switch {
		case s.Kind == api.StFence:
			s.Order = api.OrdAcq + m.Below(4)
		case s.Loc != "":
			s = m.placed(decls, s)
		}
		made = append(made, s)
	}
	return made
}

// placed is s, which has a location, on one of these with an order that goes with it; or a fence, if it may not be on that one.
func (m *Maker) placed(decls []api.Decl, s api.Stmt) api.Stmt {
	if len(decls) == 0 {
		return Fence(api.OrdSc)
	}
	d := decls[m.Below(len(decls))]
	updates := s.Kind != api.StLoad && s.Kind != api.StStore
	if d.Plain && updates {
		return Fence(api.OrdAr)
	}
	s.Loc, s.Order = d.Name, m.orderOf(s.Kind)
	if d.Plain {
		s.Order = api.OrdNa
	}
	return s
}

// orderOf is an order that a statement of a Kind may have, on a location that is not plain.
func (m *Maker) orderOf(kind int) int {
	orders := []int{api.OrdRlx, api.OrdAcq, api.OrdRel, api.OrdAr, api.OrdSc}
	switch kind {
	case api.StLoad:
		orders = []int{api.OrdRlx, api.OrdAcq, api.OrdSc}
	case api.StStore:
		orders = []int{api.OrdRlx, api.OrdRel, api.OrdSc}
	}
	return orders[m.Below(len(orders))]
}
