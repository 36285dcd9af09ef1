package lower

import (
	"slices"

	"quillon/api"
	"quillon/num"
)

// byteBits is what a header's width is a multiple of: packets are bytes.
const byteBits = 8

// A checker looks at what is in a lowered program, which may itself be or not.
type checker struct {
	p     api.Prog
	forms map[uint8]form
}

func newChecker(p api.Prog) checker { return checker{p, formsOfNodes()} }

func (c checker) may() bool {
	return each(c.p.Heads, 0, api.MaxHeaders, mayHead) &&
		each(c.p.Metas, 0, api.MaxMetas, mayWidth) &&
		each(c.p.Steps, 1, api.MaxStates, c.step) && allEnd(c.p.Steps) &&
		each(c.p.Acts, 0, api.MaxActions, c.act) &&
		each(c.p.Tabs, 0, api.MaxTables, c.tab) &&
		c.insts(none, c.p.Control) &&
		onceEach(c.p.Emit, 0, api.MaxHeaders, c.p.Heads) &&
		c.named()
}

func mayWidth(_, w int) bool { return isWidth(w) }

func mayHead(_ int, widths []int) bool {
	if !each(widths, 1, api.MaxFields, mayWidth) {
		return false
	}
	sum := 0
	for _, w := range widths {
		sum += w
	}
	return sum%byteBits == 0 && sum <= api.MaxBits
}

func (c checker) step(_ int, s api.Step) bool {
	switch {
	case !each(s.Takes, 0, api.MaxTakes, c.head):
		return false
	case len(s.Keys) == 0:
		return len(s.Branches) == 0 && c.target(s.To)
	case s.To != 0 || !each(s.Keys, 1, api.MaxKeys, c.key):
		return false
	}
	return each(s.Branches, 1, api.MaxCases, func(_ int, b api.Branch) bool {
		return c.target(b.To) && each(b.Pats, len(s.Keys), len(s.Keys), func(n int, x api.Pat) bool {
			return mayPattern(x, width(s.Keys[n]))
		})
	})
}

func (c checker) head(_, n int) bool { return isIndex(n, c.p.Heads) }

func (c checker) key(_ int, k api.Code) bool {
	_, is := c.width(none, k)
	return is
}

func (c checker) target(to int) bool {
	return to == api.ToAccept || to == api.ToReject || isIndex(to, c.p.Steps)
}

// mayPattern: what has no bits outside M fits where M does.
func mayPattern(x api.Pat, w int) bool { return num.Fits(x.M, w) && num.And(x.V, x.M) == x.V }

// allEnd tells whether no step, all of whose targets are there, is on a cycle: each round shows of those that go to ones which end that they do.
func allEnd(steps []api.Step) bool {
	ends := make([]bool, len(steps))
	goesOn := func(to int) bool { return to >= 0 && !ends[to] }
	for range steps {
		for n, s := range steps {
			ends[n] = !slices.ContainsFunc(targets(s), goesOn)
		}
	}
	return !slices.Contains(ends, false)
}

func targets(s api.Step) []int {
	if len(s.Keys) == 0 {
		return []int{s.To}
	}
	return all(s.Branches, func(b api.Branch) int { return b.To })
}

func (c checker) act(n int, a api.Act) bool {
	return each(a.Params, 0, api.MaxParams, mayWidth) && c.insts(n, a.Body)
}

func (c checker) tab(_ int, t api.Tab) bool {
	return each(t.Keys, 1, api.MaxKeys, c.key) &&
		each(t.Kinds, len(t.Keys), len(t.Keys), func(n int, kind uint8) bool {
			twice := kind == api.KeyPrefix && slices.Contains(t.Kinds[:n], kind)
			return api.KeyExact <= kind && kind <= api.KeyTernary && !twice
		}) &&
		onceEach(t.Acts, 1, api.MaxActions, c.p.Acts) && MayRun(c.p, t.Acts, t.Default)
}

func (c checker) insts(act int, l []api.Inst) bool {
	return each(l, 0, api.MaxInsts, func(n int, x api.Inst) bool {
		return c.names(act, x) && mayGo(x, n, len(l)) && c.value(act, x)
	})
}

// names tells whether a kind is one, and A and B are what is there.
func (c checker) names(act int, x api.Inst) bool {
	switch x.Kind {
	case api.InSet:
		return isIndex(x.B, at(c.p.Heads, x.A))
	case api.InMeta:
		return isIndex(x.A, c.p.Metas) && x.B == 0
	case api.InApply:
		return act == none && isIndex(x.A, c.p.Tabs) && x.B == 0
	case api.InValid:
		return isIndex(x.A, c.p.Heads) && (x.B == 0 || x.B == 1)
	case api.InDrop, api.InForward, api.InIf, api.InJump:
		return x.A == 0 && x.B == 0
	}
	return false
}

// mayGo is handed the n-th one of so many instructions.
func mayGo(x api.Inst, n, many int) bool {
	if x.Kind == api.InIf || x.Kind == api.InJump {
		return n < x.To && x.To <= many
	}
	return x.To == 0
}

// value is handed an instruction that names what is there.
func (c checker) value(act int, x api.Inst) bool {
	asked := 0
	switch x.Kind {
	case api.InSet:
		asked = c.p.Heads[x.A][x.B]
	case api.InMeta:
		asked = c.p.Metas[x.A]
	case api.InForward:
		asked = api.PortBits
	case api.InIf:
		asked = truthBits
	default:
		return len(x.E) == 0
	}
	w, is := c.width(act, x.E)
	return is && w == asked
}

func (c checker) named() bool {
	n := c.p.Names
	return len(n.Headers) == len(c.p.Heads) &&
		slices.EqualFunc(n.Fields, c.p.Heads, func(names []string, widths []int) bool { return len(names) == len(widths) }) &&
		len(n.Metas) == len(c.p.Metas) && len(n.Actions) == len(c.p.Acts) && len(n.Tables) == len(c.p.Tabs)
}

// onceEach tells whether numbers are those of things that there are, none twice.
func onceEach[T any](l []int, least, most int, things []T) bool {
	return each(l, least, most, func(n, x int) bool { return isIndex(x, things) && !slices.Contains(l[:n], x) })
}

// each asks for the bounds first, so that a list that is too long is not gone through.
func each[T any](l []T, least, most int, may func(n int, x T) bool) bool {
	if len(l) < least || len(l) > most {
		return false
	}
	for n, x := range l {
		if !may(n, x) {
			return false
		}
	}
	return true
}
