package lower

import (
	"slices"

	"quillon/api"
	"quillon/resolve"
)

// A maker makes what stands in an action, or in none, of a program with which nothing is wrong.
type maker struct {
	p      api.Program
	action int
	kinds  map[uint8]uint8 // of nodes, by those of expressions
}

func newMaker(p api.Program) maker { return maker{p, none, kindsOfNodes()} }

// kindsOfNodes: what is turned round by an OpNot behind it has the kind of what is turned.
func kindsOfNodes() map[uint8]uint8 {
	return map[uint8]uint8{
		api.ExLit: api.OpConst, api.ExField: api.OpField, api.ExMeta: api.OpMeta, api.ExParam: api.OpParam,
		api.ExPort: api.OpPort, api.ExValid: api.OpValid,
		api.ExNot: api.OpNot, api.ExNeg: api.OpNeg, api.ExBang: api.OpNot, api.ExSlice: api.OpSlice,
		api.ExShl: api.OpShl, api.ExShr: api.OpShr, api.ExCat: api.OpCat,
		api.ExAdd: api.OpAdd, api.ExSub: api.OpSub, api.ExAnd: api.OpAnd, api.ExXor: api.OpXor, api.ExOr: api.OpOr,
		api.ExEq: api.OpEq, api.ExLt: api.OpLt, api.ExLe: api.OpLe,
		api.ExNe: api.OpEq, api.ExGe: api.OpLt, api.ExGt: api.OpLe,
		api.ExBoth: api.OpAnd, api.ExAny: api.OpOr,
	}
}

// code is that of an expression which has a type; free is the width that is asked, if it is free.
func (m maker) code(e api.Expr, free int) api.Code {
	switch {
	case len(e.Args) == 0:
		return with(m.leaf(e, free))
	case len(e.Args) == 1:
		return m.ofOne(e, free)
	case e.Op == api.ExShl || e.Op == api.ExShr:
		first := m.code(e.Args[0], free)
		return with(api.Node{Op: m.kinds[e.Op], W: width(first), A: int(e.Args[1].Lit.N.Lo)}, first)
	}
	return m.ofTwo(e)
}

func (m maker) leaf(e api.Expr, free int) api.Node {
	n := api.Node{Op: m.kinds[e.Op]}
	switch e.Op {
	case api.ExLit:
		n.W, n.V = e.Lit.W, e.Lit.N
		if n.W == 0 {
			n.W = free
		}
	case api.ExField:
		n.A, n.B, n.W = m.field(e.Head, e.Name)
	case api.ExMeta:
		n.A, n.W = m.meta(e.Name)
	case api.ExParam:
		n.A = resolve.Param(m.p, m.action, e.Name)
		n.W = m.p.Actions[m.action].Params[n.A].W
	case api.ExPort:
		n.W = api.PortBits
	case api.ExValid:
		n.A, n.W = m.head(e.Head), truthBits
	}
	return n
}

func (m maker) ofOne(e api.Expr, free int) api.Code {
	one := m.code(e.Args[0], free)
	n := api.Node{Op: m.kinds[e.Op], W: width(one)}
	if e.Op == api.ExSlice {
		n.W, n.A, n.B = e.Hi-e.Lo+1, e.Hi, e.Lo
	}
	return with(n, one)
}

func (m maker) ofTwo(e api.Expr) api.Code {
	a, b := m.both(e.Args[0], e.Args[1])
	n := api.Node{Op: m.kinds[e.Op], W: width(a)}
	switch e.Op {
	case api.ExCat:
		n.W = width(a) + width(b)
	case api.ExEq, api.ExLt, api.ExLe:
		n.W = truthBits
	case api.ExNe, api.ExGe, api.ExGt:
		n.W = truthBits
		return turned(with(n, a, b))
	}
	return with(n, a, b)
}

// both: of two at most one is free, and that goes to the other one's width.
func (m maker) both(x, y api.Expr) (a, b api.Code) {
	if isFree(x) {
		b = m.code(y, 0)
		return m.code(x, width(b)), b
	}
	a = m.code(x, 0)
	return a, m.code(y, width(a))
}

// port is the code of what is forwarded to: bits of any width, made as many as a port has.
func (m maker) port(e api.Expr) api.Code {
	c := m.code(e, api.PortBits)
	switch w := width(c); {
	case w < api.PortBits:
		lacks := with(api.Node{Op: api.OpConst, W: api.PortBits - w})
		return with(api.Node{Op: api.OpCat, W: api.PortBits}, lacks, c)
	case w > api.PortBits:
		return with(api.Node{Op: api.OpSlice, W: api.PortBits, A: api.PortBits - 1}, c)
	}
	return c
}

func (m maker) head(name string) int { return resolve.Header(m.p, name) }

// field tells the numbers of a header and its field, and that one's width.
func (m maker) field(head, name string) (h, f, w int) {
	h = m.head(head)
	f = resolve.Field(m.p, h, name)
	return h, f, m.p.Headers[h].Fields[f].W
}

func (m maker) meta(name string) (n, w int) {
	n = resolve.Meta(m.p, name)
	return n, m.p.Metas[n].W
}

// isFree: all that has a type and is free is one number, with signs ahead of it.
func isFree(e api.Expr) bool {
	for e.Op == api.ExNot || e.Op == api.ExNeg {
		e = e.Args[0]
	}
	return e.Op == api.ExLit && e.Lit.W == 0
}

// with are the codes of what a node takes, and it behind them.
func with(n api.Node, parts ...api.Code) api.Code { return append(slices.Concat(parts...), n) }

func turned(c api.Code) api.Code { return with(api.Node{Op: api.OpNot, W: truthBits}, c) }

// width is that of the value that a code leaves.
func width(c api.Code) int { return c[len(c)-1].W }
