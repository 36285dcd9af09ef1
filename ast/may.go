package ast

import (
	"quillon/api"
	"quillon/token"
)

func May(p api.Program) bool {
	f := allForms()
	return each(p.Headers, 0, api.MaxHeaders, mayHeader) &&
		each(p.Metas, 0, api.MaxMetas, mayField) &&
		each(p.States, 1, api.MaxStates, f.state) &&
		each(p.Actions, 0, api.MaxActions, f.action) &&
		each(p.Tables, 0, api.MaxTables, f.table) &&
		f.block(p.Control) &&
		each(p.Emit, 0, api.MaxHeaders, token.IsName)
}

func MayExpr(e api.Expr) bool { return forms{exprs: exprForms()}.expr(e) }

func mayHeader(h api.Header) bool {
	return token.IsName(h.Name) && each(h.Fields, 1, api.MaxFields, mayField)
}

func mayField(f api.Field) bool { return token.IsName(f.Name) && isWidth(f.W) }

func (f forms) state(s api.State) bool {
	return token.IsName(s.Name) && each(s.Takes, 0, api.MaxTakes, token.IsName) && f.transition(s)
}

func (f forms) transition(s api.State) bool {
	if s.To != "" {
		return isTarget(s.To) && len(s.Keys) == 0 && len(s.Cases) == 0
	}
	return each(s.Keys, 1, api.MaxKeys, f.expr) && each(s.Cases, 1, api.MaxCases, func(c api.Case) bool {
		return f.branch(c, len(s.Keys))
	})
}

func (f forms) branch(c api.Case, keys int) bool {
	if c.Default {
		keys = 0
	}
	return isTarget(c.To) && each(c.Sets, keys, keys, f.set)
}

func (f forms) set(s api.Set) bool {
	form, is := f.sets[s.Kind]
	return is && form.fits(s)
}

func isTarget(s string) bool { return s == "accept" || s == "reject" || token.IsName(s) }

func (f forms) action(a api.Action) bool {
	return token.IsName(a.Name) && each(a.Params, 0, api.MaxParams, mayField) && f.block(a.Body)
}

func (f forms) table(t api.Table) bool {
	return token.IsName(t.Name) &&
		each(t.Keys, 1, api.MaxKeys, f.key) &&
		each(t.Actions, 1, api.MaxActions, token.IsName) &&
		token.IsName(t.Default.Name) && each(t.Default.Args, 0, api.MaxParams, mayLit)
}

func (f forms) key(k api.Key) bool {
	return k.Kind >= api.KeyExact && k.Kind <= api.KeyTernary && f.expr(k.E)
}

func (f forms) block(l []api.Stmt) bool {
	var block func(l []api.Stmt, room int) bool
	block = func(l []api.Stmt, room int) bool {
		// An empty block is none: it may be where there is room for no other.
		if room == 0 {
			return len(l) == 0
		}
		return each(l, 0, api.MaxStmts, func(s api.Stmt) bool {
			return f.stmt(s) && block(s.Then, room-1) && block(s.Else, room-1)
		})
	}
	return block(l, api.MaxBlocks)
}

// stmt looks at a statement but for those in it.
func (f forms) stmt(s api.Stmt) bool {
	form, is := f.stmts[s.Kind]
	if !is || !form.fits(s) {
		return false
	}
	if !form.expr {
		return SameExpr(s.E, api.Expr{})
	}
	return f.expr(s.E)
}

func (f forms) expr(e api.Expr) bool {
	var expr func(e api.Expr, room int) bool
	expr = func(e api.Expr, room int) bool {
		form, is := f.exprs[e.Op]
		// Without room it is left at once: going on to its end might take 2 to the power of its depth.
		return is && room > 0 && form.fits(e) && each(e.Args, form.args, form.args, func(a api.Expr) bool {
			return expr(a, room-1)
		})
	}
	return expr(e, api.MaxDepth)
}

// each asks for the bounds first, so that a list that is too long is not gone through.
func each[T any](l []T, least, most int, may func(T) bool) bool {
	if len(l) < least || len(l) > most {
		return false
	}
	for _, x := range l {
		if !may(x) {
			return false
		}
	}
	return true
}
