package ast_test

import (
	"reflect"
	"strings"

	"quillon/api"
	"quillon/num"
)

func lit(w int, n uint64) api.Expr { return api.Expr{Op: api.ExLit, Lit: api.Lit{W: w, N: num.Of(n)}} }

func field(head, name string) api.Expr { return api.Expr{Op: api.ExField, Head: head, Name: name} }

func meta(name string) api.Expr { return api.Expr{Op: api.ExMeta, Name: name} }

func param(name string) api.Expr { return api.Expr{Op: api.ExParam, Name: name} }

func port() api.Expr { return api.Expr{Op: api.ExPort} }

func valid(head string) api.Expr { return api.Expr{Op: api.ExValid, Head: head} }

func of(op uint8, args ...api.Expr) api.Expr { return api.Expr{Op: op, Args: args} }

func slice(e api.Expr, hi, lo int) api.Expr {
	return api.Expr{Op: api.ExSlice, Hi: hi, Lo: lo, Args: []api.Expr{e}}
}

func truth() api.Expr { return of(api.ExEq, port(), lit(0, 1)) }

func drop() api.Stmt { return api.Stmt{Kind: api.StDrop} }

func when(e api.Expr, then, other []api.Stmt) api.Stmt {
	return api.Stmt{Kind: api.StIf, E: e, Then: then, Else: other}
}

// times is a list of so many of the same.
func times[T any](x T, n int) []T {
	var l []T
	for range n {
		l = append(l, x)
	}
	return l
}

// least is the program { parser { state s { transition accept; } } }, all else nothing.
func least() api.Program {
	return api.Program{States: []api.State{{Name: "s", To: "accept"}}}
}

// full is a program that has each kind of item, of expression, of set and of statement, made anew each time.
func full() api.Program {
	return api.Program{
		Headers: []api.Header{
			{Name: "eth", Fields: []api.Field{{Name: "dst", W: 48}, {Name: "kind", W: 16}}},
			{Name: "ip", Fields: []api.Field{{Name: "ttl", W: 8}}},
		},
		Metas: []api.Field{{Name: "seen", W: 1}, {Name: "wide", W: 128}},
		States: []api.State{
			{
				Name: "start", Takes: []string{"eth"},
				Keys: []api.Expr{field("eth", "kind"), slice(of(api.ExCat, field("eth", "dst"), meta("wide")), 127, 0)},
				Cases: []api.Case{
					{Sets: []api.Set{{Kind: api.SetOne, V: api.Lit{N: num.Of(2048)}}, {Kind: api.SetMask, V: api.Lit{W: 8, N: num.Of(255)}, M: api.Lit{W: 128, N: num.Mask(128)}}}, To: "more"},
					{Sets: []api.Set{{Kind: api.SetAny}, {Kind: api.SetOne}}, To: "accept"},
					{Default: true, To: "reject"},
				},
			},
			{Name: "more", Takes: []string{"ip", "ip"}, To: "accept"},
			{Name: "last", To: "reject"},
			{Name: "_1", To: "more"},
		},
		Actions: []api.Action{
			{Name: "send", Params: []api.Field{{Name: "to", W: 9}, {Name: "by", W: 8}}, Body: []api.Stmt{
				{Kind: api.StSet, Head: "ip", Name: "ttl", E: of(api.ExSub, field("ip", "ttl"), param("by"))},
				{Kind: api.StForward, E: of(api.ExAdd, param("to"), of(api.ExXor, port(), lit(9, 511)))},
				{Kind: api.StInvalid, Head: "ip"},
			}},
			{Name: "no"},
		},
		Tables: []api.Table{
			{
				Name: "route",
				Keys: []api.Key{
					{E: of(api.ExShr, of(api.ExShl, field("eth", "dst"), lit(0, 127)), lit(0, 0)), Kind: api.KeyPrefix},
					{E: of(api.ExAnd, of(api.ExOr, of(api.ExNot, port()), of(api.ExNeg, port())), lit(0, 7)), Kind: api.KeyTernary},
				},
				Actions: []string{"send", "no"}, Default: api.Call{Name: "send", Args: []api.Lit{{W: 9, N: num.Of(1)}, {N: num.Of(3)}}},
			},
			{Name: "acl", Keys: []api.Key{{E: port(), Kind: api.KeyExact}}, Actions: []string{"no"}, Default: api.Call{Name: "no"}},
		},
		Control: []api.Stmt{
			{Kind: api.StSet, Name: "seen", E: lit(1, 1)},
			when(of(api.ExBoth, of(api.ExBang, valid("ip")), of(api.ExAny, of(api.ExLt, port(), lit(0, 3)), of(api.ExGe, port(), lit(0, 5)))),
				[]api.Stmt{drop(), {Kind: api.StApply, Name: "acl"}},
				[]api.Stmt{when(of(api.ExEq, of(api.ExNe, port(), port()), of(api.ExLe, port(), of(api.ExGt, port(), port()))), []api.Stmt{{Kind: api.StValid, Head: "ip"}}, nil)}),
			{Kind: api.StApply, Name: "route"},
		},
		Emit: []string{"eth", "ip"},
	}
}

// parts are all values of a type that stand in a program, in their order, where they stand.
func parts[T any](p *api.Program) []*T {
	var l []*T
	var gather func(v reflect.Value)
	gather = func(v reflect.Value) {
		if x, is := v.Addr().Interface().(*T); is {
			l = append(l, x)
		}
		switch v.Kind() {
		case reflect.Struct:
			for i := range v.NumField() {
				gather(v.Field(i))
			}
		case reflect.Slice:
			for i := range v.Len() {
				gather(v.Index(i))
			}
		}
	}
	gather(reflect.ValueOf(p).Elem())
	return l
}

// eachChanged does something with the program that full makes, less that one value of a type is another one, for all of these.
func eachChanged[T any](do func(p api.Program, i int, old T), change func(T) T) {
	whole := full()
	for i := range parts[T](&whole) {
		p := full()
		at := parts[T](&p)[i]
		old := *at
		*at = change(old)
		do(p, i, old)
	}
}

// long is a name of so many bytes.
func long(n int) string { return strings.Repeat("a", n) }

// noNames are texts that are no name, nor a target; nothing is one of them but is not here, since something may lack a name.
func noNames() []string {
	return []string{"0", "1a", "8w1", "a b", " a", "a ", "a.b", "a\n", "a-", "é", "a\x00", "=", ".", "if", "port", "meta", "default", "header", "isValid", "_", long(17), long(1000)}
}
