package types

import (
	"quillon/api"
	"quillon/num"
	"quillon/resolve"
)

// A scope is where an expression stands: what its names mean hangs on that.
type scope struct {
	p      api.Program
	action int // -1: in none
}

// typeOf, and all that look at a type below, give up with what is wrong.
func (s scope) typeOf(e api.Expr) api.Type {
	if len(e.Args) == 0 {
		return s.leaf(e)
	}
	a := s.typeOf(e.Args[0])
	if e.Op == api.ExShl || e.Op == api.ExShr {
		// The amount has no width, and goes to none.
		return bits(width(a))
	}
	if len(e.Args) == 1 {
		return ofOne(e, a)
	}
	return ofTwo(e, a, s.typeOf(e.Args[1]))
}

func (s scope) leaf(e api.Expr) api.Type {
	need(resolve.Names(s.p, s.action, e) == api.OK, api.ErrNone)
	switch e.Op {
	case api.ExLit:
		return api.Type{W: e.Lit.W, Free: e.Lit.W == 0}
	case api.ExField:
		return bits(s.fieldWidth(e.Head, e.Name))
	case api.ExMeta:
		return bits(s.metaWidth(e.Name))
	case api.ExParam:
		return bits(s.p.Actions[s.action].Params[resolve.Param(s.p, s.action, e.Name)].W)
	case api.ExValid:
		return truth()
	}
	return bits(api.PortBits)
}

// fieldWidth is for a field that is there.
func (s scope) fieldWidth(head, name string) int {
	h := resolve.Header(s.p, head)
	return s.p.Headers[h].Fields[resolve.Field(s.p, h, name)].W
}

// metaWidth is for metadata that is there.
func (s scope) metaWidth(name string) int { return s.p.Metas[resolve.Meta(s.p, name)].W }

func (s scope) goes(e api.Expr, w int) { goesAs(s.typeOf(e), e, w) }

func ofOne(e api.Expr, a api.Type) api.Type {
	switch e.Op {
	case api.ExBang:
		need(a.Truth, api.ErrKind)
		return a
	case api.ExSlice:
		need(e.Hi < width(a), api.ErrOver)
		return bits(e.Hi - e.Lo + 1)
	}
	need(!a.Truth, api.ErrKind)
	return a
}

func ofTwo(e api.Expr, a, b api.Type) api.Type {
	switch e.Op {
	case api.ExCat:
		w, v := width(a), width(b)
		// Not w + v: of a program that may not be that might wrap round.
		need(w <= api.MaxWidth-v, api.ErrOver)
		return bits(w + v)
	case api.ExEq, api.ExNe, api.ExLt, api.ExLe, api.ExGt, api.ExGe:
		common(e, a, b)
		return truth()
	case api.ExBoth, api.ExAny:
		need(a.Truth && b.Truth, api.ErrKind)
		return a
	}
	return bits(common(e, a, b))
}

// common is the width of both Args of an expression, one of which may be free.
func common(e api.Expr, a, b api.Type) int {
	need(!a.Truth && !b.Truth, api.ErrKind)
	need(!a.Free || !b.Free, api.ErrWidth)
	w := a.W
	if a.Free {
		w = b.W
	}
	goesAs(a, e.Args[0], w)
	goesAs(b, e.Args[1], w)
	return w
}

// goesAs is handed an expression beside its type.
func goesAs(t api.Type, e api.Expr, w int) {
	need(!t.Truth, api.ErrKind)
	if t.Free {
		need(num.Fits(freeNumber(e), w), api.ErrOver)
		return
	}
	need(t.W == w, api.ErrWidth)
}

// freeNumber is the one number in an expression that is free: all else there are signs ahead of it.
func freeNumber(e api.Expr) api.Num {
	for e.Op != api.ExLit {
		e = e.Args[0]
	}
	return e.Lit.N
}

// width is that of bits: a truth has none, and what is free none of its own.
func width(t api.Type) int {
	need(!t.Truth, api.ErrKind)
	need(!t.Free, api.ErrWidth)
	return t.W
}

func bits(w int) api.Type { return api.Type{W: w} }

func truth() api.Type { return api.Type{Truth: true} }
