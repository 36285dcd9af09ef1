package lower_test

import (
	"reflect"
	"slices"

	"quillon/api"
	"quillon/graph"
	"quillon/num"
)

// A critic goes through all of a program, and counts what is wrong.
type critic struct {
	api.Prog
	wrong int
}

// reckonedMay is May reckoned in another way.
func reckonedMay(p api.Prog) bool {
	c := &critic{Prog: p}
	c.widths()
	c.parser()
	for i, a := range p.Acts {
		c.within(len(a.Params), 0, 8)
		c.bits(a.Params)
		c.insts(i, a.Body)
	}
	c.insts(-1, p.Control)
	for _, x := range p.Tabs {
		c.table(x)
	}
	c.once(p.Emit, len(p.Heads))
	c.names()
	return c.wrong == 0
}

func (c *critic) want(is bool) {
	if !is {
		c.wrong++
	}
}

func (c *critic) within(n, least, most int) { c.want(least <= n && n <= most) }

func (c *critic) bits(widths []int) {
	for _, w := range widths {
		c.within(w, 1, 128)
	}
}

// fits wants that a number is none above all those of a width.
func (c *critic) fits(n api.Num, w int) { c.want(num.Cmp(n, num.Mask(w)) <= 0) }

// once wants that all are below so many, and each one is there once at most.
func (c *critic) once(l []int, many int) {
	seen := map[int]int{}
	for _, n := range l {
		c.within(n, 0, many-1)
		seen[n]++
		c.within(seen[n], 1, 1)
	}
}

func (c *critic) widths() {
	c.within(len(c.Heads), 0, 8)
	for _, h := range c.Heads {
		c.within(len(h), 1, 16)
		c.bits(h)
		sum := 0
		for _, w := range h {
			sum += w
		}
		c.within(sum, 0, 256)
		c.within(sum&7, 0, 0)
	}
	c.within(len(c.Metas), 0, 16)
	c.bits(c.Metas)
	c.within(len(c.Acts), 0, 16)
	c.within(len(c.Tabs), 0, 8)
}

func (c *critic) keys(l []api.Code) {
	for _, k := range l {
		c.within(reckonedWidth(c.Prog, -1, k), 1, 128)
	}
}

// parser looks for cycles in a tree of the same states.
func (c *critic) parser() {
	c.within(len(c.Steps), 1, 16)
	var tree api.Program
	for i, s := range c.Steps {
		c.within(len(s.Takes), 0, 8)
		for _, h := range s.Takes {
			c.within(h, 0, len(c.Heads)-1)
		}
		state := api.State{Name: stateName(i)}
		if c.within(len(s.Keys), 0, 4); len(s.Keys) == 0 {
			c.within(len(s.Branches), 0, 0)
			c.within(s.To, -2, len(c.Steps)-1)
			state.To = stateName(s.To)
		} else {
			c.keys(s.Keys)
			c.within(len(s.Branches), 1, 16)
			c.within(s.To, 0, 0)
		}
		for _, b := range s.Branches {
			c.branch(s.Keys, b)
			state.Cases = append(state.Cases, api.Case{To: stateName(b.To)})
		}
		tree.States = append(tree.States, state)
	}
	_, round := graph.Cycle(tree)
	c.want(!round)
}

// stateName is none of what is no step.
func stateName(n int) string {
	if n < 0 {
		return "reject"
	}
	return num.Text(num.Of(uint64(n)))
}

func (c *critic) branch(keys []api.Code, b api.Branch) {
	c.within(b.To, -2, len(c.Steps)-1)
	c.within(len(b.Pats), len(keys), len(keys))
	for k := range min(len(b.Pats), len(keys)) {
		x, w := b.Pats[k], reckonedWidth(c.Prog, -1, keys[k])
		c.fits(x.M, w)
		c.fits(x.V, w)
		c.want(num.Or(x.V, x.M) == x.M)
	}
}

func (c *critic) table(x api.Tab) {
	c.within(len(x.Keys), 1, 4)
	c.keys(x.Keys)
	c.within(len(x.Kinds), len(x.Keys), len(x.Keys))
	prefixes := 0
	for _, k := range x.Kinds {
		c.within(int(k), 1, 3)
		if k == api.KeyPrefix {
			prefixes++
		}
	}
	c.within(prefixes, 0, 1)
	c.within(len(x.Acts), 1, 16)
	c.once(x.Acts, len(c.Acts))
	c.want(reckonedRun(c.Prog, x.Acts, x.Default))
}

// reckonedRun is MayRun reckoned in another way.
func reckonedRun(p api.Prog, listed []int, r api.Run) bool {
	c := &critic{Prog: p}
	c.want(slices.Index(listed, r.Act) >= 0)
	if c.within(r.Act, 0, len(p.Acts)-1); c.wrong > 0 {
		return false
	}
	params := p.Acts[r.Act].Params
	c.within(len(r.Args), len(params), len(params))
	for i := range min(len(params), len(r.Args)) {
		c.fits(r.Args[i], params[i])
	}
	return c.wrong == 0
}

func (c *critic) names() {
	n := c.Names
	for _, x := range [][2]int{{len(n.Headers), len(c.Heads)}, {len(n.Fields), len(c.Heads)}, {len(n.Metas), len(c.Metas)}, {len(n.Actions), len(c.Acts)}, {len(n.Tables), len(c.Tabs)}} {
		c.within(x[0], x[1], x[1])
	}
	for i := range min(len(n.Fields), len(c.Heads)) {
		c.within(len(n.Fields[i]), len(c.Heads[i]), len(c.Heads[i]))
	}
}

func (c *critic) insts(act int, l []api.Inst) {
	c.within(len(l), 0, 1<<16)
	for i, x := range l {
		c.want(mayInst(c.Prog, act, x, i, len(l)))
	}
}

// mayInst gathers, by a kind, all that an instruction may be.
func mayInst(p api.Prog, act int, x api.Inst, at, many int) bool {
	w := reckonedWidth(p, act, x.E)
	e := x.E
	x.E = nil
	forward := at < x.To && x.To <= many
	switch x.Kind {
	case api.InSet:
		for h, l := range p.Heads {
			for f, bits := range l {
				if reflect.DeepEqual(x, api.Inst{Kind: x.Kind, A: h, B: f}) {
					return w == bits
				}
			}
		}
	case api.InMeta:
		for n, bits := range p.Metas {
			if reflect.DeepEqual(x, api.Inst{Kind: x.Kind, A: n}) {
				return w == bits
			}
		}
	case api.InApply:
		for n := range p.Tabs {
			if reflect.DeepEqual(x, api.Inst{Kind: x.Kind, A: n}) {
				return act < 0 && len(e) == 0
			}
		}
	case api.InDrop:
		return reflect.DeepEqual(x, api.Inst{Kind: x.Kind}) && len(e) == 0
	case api.InForward:
		return reflect.DeepEqual(x, api.Inst{Kind: x.Kind}) && w == 9
	case api.InValid:
		for n := range p.Heads {
			if reflect.DeepEqual(x, api.Inst{Kind: x.Kind, A: n}) || reflect.DeepEqual(x, api.Inst{Kind: x.Kind, A: n, B: 1}) {
				return len(e) == 0
			}
		}
	case api.InIf:
		return reflect.DeepEqual(x, api.Inst{Kind: x.Kind, To: x.To}) && w == 1 && forward
	case api.InJump:
		return reflect.DeepEqual(x, api.Inst{Kind: x.Kind, To: x.To}) && len(e) == 0 && forward
	}
	return false
}
