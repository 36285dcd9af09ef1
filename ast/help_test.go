package ast_test

import (
	"reflect"
	"strings"

	"quillon/api"
	"quillon/sample"
)

var (
	lit, field, meta, param, port, valid = sample.Lit, sample.Field, sample.Meta, sample.Param, sample.Port, sample.Valid
	of, slice, drop, when                = sample.Of, sample.Slice, sample.Drop, sample.If
	least, full                          = sample.Least, sample.Full
)

func truth() api.Expr { return of(api.ExEq, port(), lit(0, 1)) }

// times is a list of so many of the same.
func times[T any](x T, n int) []T {
	var l []T
	for range n {
		l = append(l, x)
	}
	return l
}

// parts are all values of a type that stand in a program, in their order, where they stand.
func parts[T any](p *api.Program) []*T {
	var l []*T
	var gather func(v reflect.Value)
	gather = func(v reflect.Value) {
		if x, is := v.Addr().Interface().(*T); is {
			l = append(l, x)
		}
		switch v.Kind() {
		case reflect.Struct:
			for i := range v.NumField() {
				gather(v.Field(i))
			}
		case reflect.Slice:
			for i := range v.Len() {
				gather(v.Index(i))
			}
		}
	}
	gather(reflect.ValueOf(p).Elem())
	return l
}

// eachChanged does something with the program that full makes, less that one value of a type is another one, for all of these.
func eachChanged[T any](do func(p api.Program, i int, old T), change func(T) T) {
	whole := full()
	for i := range parts[T](&whole) {
		p := full()
		at := parts[T](&p)[i]
		old := *at
		*at = change(old)
		do(p, i, old)
	}
}

// long is a name of so many bytes.
func long(n int) string { return strings.Repeat("a", n) }

// noNames are texts that are no name, nor a target; nothing is one of them but is not here, since something may lack a name.
func noNames() []string {
	return []string{"0", "1a", "8w1", "a b", " a", "a ", "a.b", "a\n", "a-", "é", "a\x00", "=", ".", "if", "port", "meta", "default", "header", "isValid", "_", long(17), long(1000)}
}
