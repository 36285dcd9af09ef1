package types

import (
	"quillon/api"
	"quillon/resolve"
)

// none is the action of what is in no action.
const none = -1

// A checker is handed the items of a program, all of whose names mean something, in their order; it gives up at the first one with which something is wrong.
type checker struct {
	p    api.Program
	keys []int // the last transition's keys' widths: its cases come behind it
}

func (c *checker) item(it api.Item) {
	switch it.Kind {
	case api.ItNext:
		c.next(c.p.States[it.A])
	case api.ItCase:
		c.branch(c.p.States[it.A].Cases[it.B])
	case api.ItStmt:
		scope{c.p, it.A}.stmt(it.S)
	case api.ItKey:
		c.key(c.p.Tables[it.A].Keys, it.B)
	case api.ItDefault:
		c.fallback(c.p.Tables[it.A].Default)
	}
}

func (c *checker) next(s api.State) {
	c.keys = nil
	for _, k := range s.Keys {
		c.keys = append(c.keys, width(scope{c.p, none}.typeOf(k)))
	}
}

func (c *checker) branch(x api.Case) {
	for i, s := range x.Sets {
		// A number that is not in a set is 0 without a width, which goes to each.
		litGoes(s.V, c.keys[i])
		litGoes(s.M, c.keys[i])
	}
}

func (c *checker) key(keys []api.Key, n int) {
	width(scope{c.p, none}.typeOf(keys[n].E))
	if keys[n].Kind != api.KeyPrefix {
		return
	}
	for _, k := range keys[:n] {
		need(k.Kind != api.KeyPrefix, api.ErrTwice)
	}
}

func (c *checker) fallback(x api.Call) {
	params := c.p.Actions[resolve.Action(c.p, x.Name)].Params
	for i, l := range x.Args {
		litGoes(l, params[i].W)
	}
}

// stmt looks at a statement but for those in it, which are items of their own.
func (s scope) stmt(x api.Stmt) {
	switch x.Kind {
	case api.StSet:
		s.goes(x.E, s.targetWidth(x))
	case api.StIf:
		need(s.typeOf(x.E).Truth, api.ErrKind)
	case api.StForward:
		s.forward(x.E)
	}
}

func (s scope) targetWidth(x api.Stmt) int {
	if x.Head == "" {
		return s.metaWidth(x.Name)
	}
	return s.fieldWidth(x.Head, x.Name)
}

// forward: bits of any width are made a port's, but what is free is written as one.
func (s scope) forward(e api.Expr) {
	t := s.typeOf(e)
	need(!t.Truth, api.ErrKind)
	if t.Free {
		goesAs(t, e, api.PortBits)
	}
}

func litGoes(l api.Lit, w int) {
	e := Lit(l, w)
	need(e == api.OK, e)
}
