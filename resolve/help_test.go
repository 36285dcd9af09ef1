package resolve_test

import (
	"reflect"
	"strings"
	"testing"

	"quillon/api"
	"quillon/parse"
	"quillon/sample"
)

var (
	lit, field, meta, param, port, valid = sample.Lit, sample.Field, sample.Meta, sample.Param, sample.Port, sample.Valid
	of, slice, drop, when                = sample.Of, sample.Slice, sample.Drop, sample.If
)

// whole is a program with nothing wrong. Names of one kind are also there of another one: h is a header and metadata, t a state and a table, a an action and a table, x a parameter of two actions, f a field of two headers.
const whole = `
header h { bit<8> f; bit<3> g; bit<5> x; }
header i { bit<16> f; }
metadata { bit<4> m; bit<9> h; }
parser {
	state s {
		extract(h); extract(h);
		transition select(h.f, meta.m ++ (port + 1)) { 1, _: t; _, 2 &&& 3: accept; default: reject; _, _: s; }
	}
	state t { extract(i); transition u; }
	state u { transition accept; }
	state w { transition reject; }
}
action a(bit<9> x, bit<8> y) {
	forward(x + 1);
	h.g = y[2:0];
	if (!isValid(i)) { meta.h = x; drop; } else { invalid i; if (y == 3) { } }
}
action b(bit<1> x) { meta.m = x ++ 3w1; }
action c() { }
table t { key { h.x: exact; ~meta.m: ternary; } actions { a; b; c; } default a(1, 2); }
table a { key { isValid(h) && port == 1: exact; } actions { c; } default c(); }
control {
	apply t;
	if (h.g == 1 || meta.h == 2) { apply a; valid h; } else { i.f = i.f - 5; if (port < 4) { } else { invalid h; } }
	forward(meta.h);
	drop;
	meta.h = 6;
}
deparser { emit(i); emit(h); }
`

// A change is sample's, in fewer words: rows of another package's type need their fields' names.
type change struct {
	Old, New string
	E        api.Errno
}

// changed is a text in which a change is made.
func changed(t *testing.T, s string, c change) string {
	t.Helper()
	s, is := sample.Change(c).In(s)
	if !is {
		t.Fatalf("%q is not there once", c.Old)
	}
	return s
}

func read(t *testing.T, s string) (api.Program, []int) {
	t.Helper()
	p, places, f := parse.Program(s)
	if f != (api.Fault{}) {
		t.Fatalf("%v in\n%s", f, s)
	}
	return p, places
}

func wholeTree(t *testing.T) api.Program {
	t.Helper()
	p, _ := read(t, whole)
	return p
}

// long is a name of so many bytes.
func long(n int) string { return strings.Repeat("a", n) }

// wiped sets all values that a list, or what stands in it, holds to nought.
func wiped(v reflect.Value) {
	switch v.Kind() {
	case reflect.Struct:
		for i := range v.NumField() {
			wiped(v.Field(i))
		}
	case reflect.Slice:
		for i := range v.Len() {
			wiped(v.Index(i))
			v.Index(i).SetZero()
		}
	}
}
