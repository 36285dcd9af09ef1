package ast

import (
	"quillon/api"
	"quillon/num"
	"quillon/token"
)

// A part tells whether a name stands in what is of a kind. What else stands there is told by a bool: a number may well be 0.
type part uint8

const (
	absent part = iota
	needed
	optional
)

type exprForm struct {
	lit, slice bool
	head, name part
	args       int
	shift      bool // the second one of its Args is how many bits it shifts by
}

type setForm struct{ value, mask bool }

type stmtForm struct {
	head, name   part
	expr, blocks bool
}

// Forms are by their kinds what belongs to expressions, sets and statements, all else being nought; a kind that is not among them is none.
type forms struct {
	exprs map[uint8]exprForm
	sets  map[uint8]setForm
	stmts map[uint8]stmtForm
}

func allForms() forms {
	return forms{exprs: exprForms(), sets: setForms(), stmts: stmtForms()}
}

func exprForms() map[uint8]exprForm {
	l := map[uint8]exprForm{
		api.ExLit:   {lit: true},
		api.ExField: {head: needed, name: needed},
		api.ExMeta:  {name: needed},
		api.ExParam: {name: needed},
		api.ExPort:  {},
		api.ExValid: {head: needed},
		api.ExNot:   {args: 1},
		api.ExNeg:   {args: 1},
		api.ExBang:  {args: 1},
		api.ExSlice: {args: 1, slice: true},
	}
	for op := api.ExCat; op <= api.ExAny; op++ {
		l[op] = exprForm{args: 2, shift: op == api.ExShl || op == api.ExShr}
	}
	return l
}

func setForms() map[uint8]setForm {
	return map[uint8]setForm{
		api.SetAny:  {},
		api.SetOne:  {value: true},
		api.SetMask: {value: true, mask: true},
	}
}

func stmtForms() map[uint8]stmtForm {
	return map[uint8]stmtForm{
		api.StSet:     {head: optional, name: needed, expr: true},
		api.StIf:      {expr: true, blocks: true},
		api.StApply:   {name: needed},
		api.StDrop:    {},
		api.StForward: {expr: true},
		api.StValid:   {head: needed},
		api.StInvalid: {head: needed},
	}
}

// fits looks at an expression itself; its Args are to be looked at beside.
func (f exprForm) fits(e api.Expr) bool {
	return litFits(e.Lit, f.lit) && nameFits(e.Head, f.head) && nameFits(e.Name, f.name) &&
		sliceFits(e.Hi, e.Lo, f.slice) && len(e.Args) == f.args && (!f.shift || isAmount(e.Args[1]))
}

func (f setForm) fits(s api.Set) bool { return litFits(s.V, f.value) && litFits(s.M, f.mask) }

// fits looks at a statement but for its expression and the statements in it.
func (f stmtForm) fits(s api.Stmt) bool {
	return nameFits(s.Head, f.head) && nameFits(s.Name, f.name) &&
		(f.blocks || len(s.Then) == 0 && len(s.Else) == 0)
}

func litFits(l api.Lit, is bool) bool {
	if !is {
		return l == api.Lit{}
	}
	return mayLit(l)
}

func nameFits(s string, p part) bool {
	if s == "" {
		return p != needed
	}
	return p != absent && token.IsName(s)
}

func sliceFits(hi, lo int, is bool) bool {
	if !is {
		return hi == 0 && lo == 0
	}
	return 0 <= lo && lo <= hi && hi < api.MaxWidth
}

func isAmount(e api.Expr) bool {
	return e.Op == api.ExLit && e.Lit.W == 0 && num.Cmp(e.Lit.N, num.Of(api.MaxShift)) <= 0
}

func mayLit(l api.Lit) bool {
	return l.W == 0 || isWidth(l.W) && num.Fits(l.N, l.W)
}

func isWidth(w int) bool { return w >= 1 && w <= api.MaxWidth }
