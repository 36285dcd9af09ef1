// Package sample makes expressions, statements and programs for the tests of all layers.
package sample

import (
	"quillon/api"
	"quillon/num"
)

func Lit(w int, n uint64) api.Expr { return api.Expr{Op: api.ExLit, Lit: api.Lit{W: w, N: num.Of(n)}} }

func Field(head, name string) api.Expr { return api.Expr{Op: api.ExField, Head: head, Name: name} }

func Meta(name string) api.Expr { return api.Expr{Op: api.ExMeta, Name: name} }

func Param(name string) api.Expr { return api.Expr{Op: api.ExParam, Name: name} }

func Port() api.Expr { return api.Expr{Op: api.ExPort} }

func Valid(head string) api.Expr { return api.Expr{Op: api.ExValid, Head: head} }

func Of(op uint8, args ...api.Expr) api.Expr {
	return api.Expr{Op: op, Args: append([]api.Expr(nil), args...)}
}

func Slice(e api.Expr, hi, lo int) api.Expr {
	return api.Expr{Op: api.ExSlice, Hi: hi, Lo: lo, Args: []api.Expr{e}}
}

func Drop() api.Stmt { return api.Stmt{Kind: api.StDrop} }

func If(e api.Expr, then, other []api.Stmt) api.Stmt {
	return api.Stmt{Kind: api.StIf, E: e, Then: then, Else: other}
}
