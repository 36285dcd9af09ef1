package ast

import (
	"slices"

	"quillon/api"
)

func Same(a, b api.Program) bool {
	return slices.EqualFunc(a.Headers, b.Headers, sameHeader) &&
		slices.Equal(a.Metas, b.Metas) &&
		slices.EqualFunc(a.States, b.States, sameState) &&
		slices.EqualFunc(a.Actions, b.Actions, sameAction) &&
		slices.EqualFunc(a.Tables, b.Tables, sameTable) &&
		sameBlock(a.Control, b.Control) &&
		slices.Equal(a.Emit, b.Emit)
}

func SameExpr(a, b api.Expr) bool {
	var same func(a, b api.Expr) bool
	same = func(a, b api.Expr) bool {
		return a.Op == b.Op && a.Lit == b.Lit && a.Head == b.Head && a.Name == b.Name &&
			a.Hi == b.Hi && a.Lo == b.Lo && slices.EqualFunc(a.Args, b.Args, same)
	}
	return same(a, b)
}

func sameHeader(a, b api.Header) bool {
	return a.Name == b.Name && slices.Equal(a.Fields, b.Fields)
}

func sameState(a, b api.State) bool {
	return a.Name == b.Name && slices.Equal(a.Takes, b.Takes) && a.To == b.To &&
		slices.EqualFunc(a.Keys, b.Keys, SameExpr) && slices.EqualFunc(a.Cases, b.Cases, sameCase)
}

func sameCase(a, b api.Case) bool {
	return a.Default == b.Default && slices.Equal(a.Sets, b.Sets) && a.To == b.To
}

func sameAction(a, b api.Action) bool {
	return a.Name == b.Name && slices.Equal(a.Params, b.Params) && sameBlock(a.Body, b.Body)
}

func sameBlock(a, b []api.Stmt) bool {
	var same func(a, b api.Stmt) bool
	same = func(a, b api.Stmt) bool {
		return a.Kind == b.Kind && a.Head == b.Head && a.Name == b.Name && SameExpr(a.E, b.E) &&
			slices.EqualFunc(a.Then, b.Then, same) && slices.EqualFunc(a.Else, b.Else, same)
	}
	return slices.EqualFunc(a, b, same)
}

func sameTable(a, b api.Table) bool {
	return a.Name == b.Name && slices.EqualFunc(a.Keys, b.Keys, sameKey) && slices.Equal(a.Actions, b.Actions) &&
		a.Default.Name == b.Default.Name && slices.Equal(a.Default.Args, b.Default.Args)
}

func sameKey(a, b api.Key) bool { return a.Kind == b.Kind && SameExpr(a.E, b.E) }
