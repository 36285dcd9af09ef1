package lower

import (
	"slices"

	"quillon/api"
	"quillon/num"
)

// A form is what belongs to nodes of a kind: how many values they take, and whether A, B and V are said. All else is nought.
type form struct {
	takes   int
	a, b, v bool
}

// formsOfNodes are by their kinds; a kind that is not among them is none.
func formsOfNodes() map[uint8]form {
	leaf, numbered := form{}, form{a: true}
	one, two := form{takes: 1}, form{takes: 2}
	shift := form{takes: 1, a: true}
	return map[uint8]form{
		api.OpConst: {v: true}, api.OpField: {a: true, b: true}, api.OpMeta: numbered, api.OpParam: numbered,
		api.OpPort: leaf, api.OpValid: numbered,
		api.OpNot: one, api.OpNeg: one, api.OpSlice: {takes: 1, a: true, b: true},
		api.OpCat: two, api.OpAdd: two, api.OpSub: two,
		api.OpShl: shift, api.OpShr: shift,
		api.OpAnd: two, api.OpXor: two, api.OpOr: two,
		api.OpEq: two, api.OpLt: two, api.OpLe: two,
	}
}

// fits looks at what is said of a node; what that has to be is to be looked at beside.
func (f form) fits(n api.Node) bool {
	return isWidth(n.W) && (f.a || n.A == 0) && (f.b || n.B == 0) && (f.v || n.V == api.Num{})
}

// width goes through a code as if it were run, over a stack of its values' widths.
func (c checker) width(act int, code api.Code) (int, bool) {
	if len(code) > api.MaxCode {
		return 0, false
	}
	var stack []int
	for _, n := range code {
		f, is := c.forms[n.Op]
		rest := len(stack) - f.takes
		if !is || rest < 0 || !f.fits(n) || !c.agrees(act, n, stack[rest:]) {
			return 0, false
		}
		stack = append(stack[:rest], n.W)
	}
	if len(stack) != 1 {
		return 0, false
	}
	return stack[0], true
}

// agrees tells whether a node's width, and what is said of it, go with the widths of what it takes.
func (c checker) agrees(act int, n api.Node, took []int) bool {
	switch n.Op {
	case api.OpConst:
		return num.Fits(n.V, n.W)
	case api.OpField:
		return n.W == at(at(c.p.Heads, n.A), n.B)
	case api.OpMeta:
		return n.W == at(c.p.Metas, n.A)
	case api.OpParam:
		return n.W == at(at(c.p.Acts, act).Params, n.A)
	case api.OpPort:
		return n.W == api.PortBits
	case api.OpValid:
		return n.W == truthBits && isIndex(n.A, c.p.Heads)
	case api.OpSlice:
		return took[0] > n.A && n.A >= n.B && n.B >= 0 && n.W == n.A-n.B+1
	case api.OpShl, api.OpShr:
		return n.W == took[0] && 0 <= n.A && n.A <= api.MaxShift
	case api.OpCat:
		return n.W == took[0]+took[1]
	case api.OpEq, api.OpLt, api.OpLe:
		return n.W == truthBits && took[0] == took[1]
	}
	return !slices.ContainsFunc(took, func(w int) bool { return w != n.W })
}

func isWidth(w int) bool { return w >= 1 && w <= api.MaxWidth }

func isIndex[T any](n int, l []T) bool { return n >= 0 && n < len(l) }

// at is the n-th one; of none it is nought, which no width is.
func at[T any](l []T, n int) T {
	if !isIndex(n, l) {
		var nought T
		return nought
	}
	return l[n]
}
