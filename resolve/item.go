package resolve

import (
	"iter"

	"quillon/api"
)

// items are a program's, in their order; their statements are those of the program itself.
func items(p api.Program) iter.Seq[api.Item] {
	return func(yield func(api.Item) bool) {
		t := teller(yield)
		_ = each(p.Headers, t.header) &&
			each(p.Metas, func(a int, _ api.Field) bool { return t.one(api.ItMeta, a) }) &&
			each(p.States, t.state) &&
			each(p.Actions, t.action) &&
			each(p.Tables, t.table) &&
			t.block(none, p.Control) &&
			each(p.Emit, func(a int, _ string) bool { return t.one(api.ItEmit, a) })
	}
}

// A teller is handed items one by one; it, and all that hand it some, answer whether to go on.
type teller func(api.Item) bool

func (t teller) one(kind uint8, a int) bool { return t(api.Item{Kind: kind, A: a}) }

// parts are so many of a kind, of one thing.
func (t teller) parts(kind uint8, a, n int) bool {
	for b := range n {
		if !t(api.Item{Kind: kind, A: a, B: b}) {
			return false
		}
	}
	return true
}

func (t teller) header(a int, h api.Header) bool {
	return t.one(api.ItHeader, a) && t.parts(api.ItField, a, len(h.Fields))
}

func (t teller) state(a int, s api.State) bool {
	return t.one(api.ItState, a) && t.parts(api.ItTake, a, len(s.Takes)) &&
		t.one(api.ItNext, a) && t.parts(api.ItCase, a, len(s.Cases))
}

func (t teller) action(a int, x api.Action) bool {
	return t.one(api.ItAction, a) && t.parts(api.ItParam, a, len(x.Params)) && t.block(a, x.Body)
}

func (t teller) table(a int, x api.Table) bool {
	return t.one(api.ItTable, a) && t.parts(api.ItKey, a, len(x.Keys)) &&
		t.parts(api.ItListed, a, len(x.Actions)) && t.one(api.ItDefault, a)
}

func (t teller) block(action int, l []api.Stmt) bool {
	return each(l, func(_ int, s api.Stmt) bool {
		return t(api.Item{Kind: api.ItStmt, A: action, S: s}) && t.block(action, s.Then) && t.block(action, s.Else)
	})
}

func each[T any](l []T, tell func(int, T) bool) bool {
	for i, x := range l {
		if !tell(i, x) {
			return false
		}
	}
	return true
}

func copiedStmt(s api.Stmt) api.Stmt {
	s.E = copiedExpr(s.E)
	s.Then = copied(s.Then, copiedStmt)
	s.Else = copied(s.Else, copiedStmt)
	return s
}

func copiedExpr(e api.Expr) api.Expr {
	e.Args = copied(e.Args, copiedExpr)
	return e
}

func copied[T any](l []T, one func(T) T) []T {
	if l == nil {
		return nil
	}
	c := make([]T, len(l))
	for i, x := range l {
		c[i] = one(x)
	}
	return c
}
