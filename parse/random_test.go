package parse_test

import (
	"math/rand"

	"quillon/api"
	"quillon/num"
)

// A maker makes what may be, by chance that is the same each time.
type maker struct{ *rand.Rand }

func (m maker) name() string {
	const letters = "abyzAZ_019"
	b := []byte{letters[m.Intn(7)], '_'}
	for range m.Intn(api.MaxName - 1) {
		b = append(b, letters[m.Intn(len(letters))])
	}
	return string(b)
}

func (m maker) number(w int) api.Num {
	n := num.Cut(api.Num{Hi: m.Uint64(), Lo: m.Uint64()}, 1+m.Intn(api.MaxWidth))
	return num.Cut(n, w)
}

func (m maker) lit() api.Lit {
	w := m.Intn(api.MaxWidth + 1)
	if w == 0 || m.Intn(2) == 0 {
		return api.Lit{N: m.number(api.MaxWidth)}
	}
	return api.Lit{W: w, N: m.number(w)}
}

// some is a list of at least so many, and rarely as many as there may be.
func some[T any](m maker, least, most int, one func() T) []T {
	n := least + m.Intn(3)
	if m.Intn(8) == 0 {
		n = most
	}
	var l []T
	for range min(n, most) {
		l = append(l, one())
	}
	return l
}

func (m maker) field() api.Field { return api.Field{Name: m.name(), W: 1 + m.Intn(api.MaxWidth)} }

func (m maker) target() string {
	return []string{"accept", "reject", m.name()}[m.Intn(3)]
}

// expr is an expression of at most that depth.
func (m maker) expr(depth int) api.Expr {
	op := uint8(1 + m.Intn(int(api.ExAny)))
	if depth == 1 {
		op = uint8(1 + m.Intn(int(api.ExValid)))
	}
	e := api.Expr{Op: op}
	switch {
	case op == api.ExLit:
		e.Lit = m.lit()
	case op == api.ExField:
		e.Head, e.Name = m.name(), m.name()
	case op == api.ExMeta, op == api.ExParam:
		e.Name = m.name()
	case op == api.ExPort:
	case op == api.ExValid:
		e.Head = m.name()
	case op <= api.ExSlice:
		e.Args = []api.Expr{m.expr(depth - 1)}
	case op == api.ExShl, op == api.ExShr:
		e.Args = []api.Expr{m.expr(depth - 1), lit(0, uint64(m.Intn(api.MaxShift+1)))}
	default:
		e.Args = []api.Expr{m.expr(depth - 1), m.expr(depth - 1)}
	}
	if op == api.ExSlice {
		e.Hi = m.Intn(api.MaxWidth)
		e.Lo = m.Intn(e.Hi + 1)
	}
	return e
}

// anyExpr is mostly a small one.
func (m maker) anyExpr() api.Expr {
	if m.Intn(30) == 0 {
		return m.expr(api.MaxDepth)
	}
	return m.expr(1 + m.Intn(4))
}

func (m maker) set() api.Set {
	s := api.Set{Kind: uint8(1 + m.Intn(3))}
	if s.Kind != api.SetAny {
		s.V = m.lit()
	}
	if s.Kind == api.SetMask {
		s.M = m.lit()
	}
	return s
}

func (m maker) state() api.State {
	s := api.State{Name: m.name(), Takes: some(m, 0, api.MaxTakes, m.name)}
	if m.Intn(2) == 0 {
		s.To = m.target()
		return s
	}
	s.Keys = some(m, 1, api.MaxKeys, m.anyExpr)
	s.Cases = some(m, 1, api.MaxCases, func() api.Case {
		c := api.Case{Default: m.Intn(4) == 0, To: m.target()}
		if !c.Default {
			c.Sets = some(m, len(s.Keys), len(s.Keys), m.set)
		}
		return c
	})
	return s
}

// stmt is a statement in a block that has room for so many blocks in it.
func (m maker) stmt(room int) api.Stmt {
	s := api.Stmt{Kind: uint8(1 + m.Intn(7))}
	switch s.Kind {
	case api.StSet:
		s.Name, s.E = m.name(), m.anyExpr()
		if m.Intn(2) == 0 {
			s.Head = m.name()
		}
	case api.StIf:
		s.E = m.anyExpr()
		if room > 0 && m.Intn(3) > 0 {
			s.Then = m.block(room)
		}
		if room > 0 && m.Intn(2) == 0 {
			s.Else = m.block(room)
		}
	case api.StApply:
		s.Name = m.name()
	case api.StForward:
		s.E = m.anyExpr()
	case api.StValid, api.StInvalid:
		s.Head = m.name()
	}
	return s
}

// block is a block that, with those in it, is at most so many deep.
func (m maker) block(room int) []api.Stmt {
	return some(m, 0, 3+room, func() api.Stmt { return m.stmt(room - 1) })
}

func (m maker) program() api.Program {
	return api.Program{
		Headers: some(m, 0, api.MaxHeaders, func() api.Header {
			return api.Header{Name: m.name(), Fields: some(m, 1, api.MaxFields, m.field)}
		}),
		Metas:  some(m, 0, api.MaxMetas, m.field),
		States: some(m, 1, api.MaxStates, m.state),
		Actions: some(m, 0, api.MaxActions, func() api.Action {
			return api.Action{Name: m.name(), Params: some(m, 0, api.MaxParams, m.field), Body: m.block(2)}
		}),
		Tables: some(m, 0, api.MaxTables, func() api.Table {
			return api.Table{
				Name:    m.name(),
				Keys:    some(m, 1, api.MaxKeys, func() api.Key { return api.Key{E: m.anyExpr(), Kind: uint8(1 + m.Intn(3))} }),
				Actions: some(m, 1, api.MaxActions, m.name),
				Default: api.Call{Name: m.name(), Args: some(m, 0, api.MaxParams, m.lit)},
			}
		}),
		Control: m.block(api.MaxBlocks),
		Emit:    some(m, 0, api.MaxHeaders, m.name),
	}
}
