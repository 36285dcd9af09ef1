package types_test

import (
	"math/big"
	"reflect"
	"strings"
	"testing"

	"quillon/api"
	"quillon/num"
	"quillon/parse"
	"quillon/print"
	"quillon/sample"
	"quillon/types"
)

var (
	lit, field, meta, param, port, valid = sample.Lit, sample.Field, sample.Meta, sample.Param, sample.Port, sample.Valid
	of, slice                            = sample.Of, sample.Slice
)

// whole is a program with nothing wrong. A name has other widths where it is of another kind, or in another header or action: f, h, w and x.
const whole = `
header h { bit<8> f; bit<3> g; bit<5> x; }
header i { bit<16> f; bit<128> w; }
metadata { bit<4> m; bit<9> h; bit<1> o; bit<127> w; bit<2> f; }
parser {
	state s {
		extract(h);
		transition select(h.f, meta.m ++ (port + 1)) {
			1, _: t;
			_, 13w2 &&& 3: accept;
			8w255 &&& 15, 8191: t;
			default: reject;
			0 &&& 8w0, 0 &&& 13w8191: accept;
		}
	}
	state t {
		extract(i);
		transition select(i.w, ~h.g, i.f[3:3], port) {
			340282366920938463463374607431768211455, 3w7, _, 511: u;
			_, 7 &&& 7, 1w1, 9w5 &&& 0: u;
		}
	}
	state u { transition accept; }
}
action a(bit<9> x, bit<8> y) {
	forward(x + 1);
	h.g = y[2:0];
	if (!isValid(i)) { meta.h = x; drop; } else { invalid i; if (y == 3 && 9 != x) { h.f = y ^ 255; } }
}
action b(bit<1> x) { meta.m = x ++ 3w1; forward(x); i.w = -~5; }
action c() { }
table t { key { h.x: exact; ~meta.m: ternary; port >> 3: lpm; } actions { a; b; c; } default a(511, 2); }
table a { key { port - 1: lpm; } actions { c; b; } default b(1w1); }
control {
	apply t;
	if (h.g == 1 || meta.h >= 2) { apply a; valid h; } else { i.f = i.f - 5; if (port < 4) { } else { meta.o = i.w[127:127]; } }
	forward(meta.w);
	drop;
	meta.h = 511;
}
deparser { emit(i); emit(h); }
`

func wholeTree(t *testing.T) api.Program {
	t.Helper()
	p, _, f := parse.Program(whole)
	if f != (api.Fault{}) {
		t.Fatal(f)
	}
	return p
}

func expr(t *testing.T, s string) api.Expr {
	t.Helper()
	e, f := parse.Expr(s)
	if f != (api.Fault{}) {
		t.Fatalf("%v in %s", f, s)
	}
	return e
}

// A told type is a width's digits, truth, free, or an error's word of layer 2: none, kind, width, over.
func told(t *testing.T, s string) (api.Type, api.Errno) {
	t.Helper()
	switch s {
	case "truth":
		return api.Type{Truth: true}, api.OK
	case "free":
		return api.Type{Free: true}, api.OK
	case "none":
		return api.Type{}, api.ErrNone
	case "kind":
		return api.Type{}, api.ErrKind
	case "width":
		return api.Type{}, api.ErrWidth
	case "over":
		return api.Type{}, api.ErrOver
	}
	n, e := num.Parse(s)
	if e != api.OK {
		t.Fatalf("no type: %s", s)
	}
	return api.Type{W: int(n.Lo)}, api.OK
}

func wantOf(t *testing.T, p api.Program, action int, e api.Expr, want api.Type, wantErr api.Errno) {
	t.Helper()
	if got, err := types.Of(p, action, e); got != want || err != wantErr {
		t.Errorf("in action %d Of %.300s is %+v, %d, want %+v, %d", action, print.Expr(e), got, err, want, wantErr)
	}
}

func wantGoes(t *testing.T, p api.Program, action int, e api.Expr, w int, want api.Errno) {
	t.Helper()
	if got := types.Goes(p, action, e, w); got != want {
		t.Errorf("in action %d Goes %.300s to %d is %d, want %d", action, print.Expr(e), w, got, want)
	}
}

// wantCheck wants the error at the item where the @ stands; without one, none.
func wantCheck(t *testing.T, s string, e api.Errno) {
	t.Helper()
	p, want, is := sample.Marked(s)
	if !is || strings.Contains(s, "@") != (e != api.OK) {
		t.Fatalf("no program, or no place of %d, in\n%s", e, s)
	}
	if n, got := types.Check(p); n != want || got != e {
		t.Errorf("Check is %d, %d, want %d, %d, of\n%s", n, got, want, e, s)
	}
	if q, _, _ := sample.Marked(s); !reflect.DeepEqual(p, q) {
		t.Errorf("Check changed\n%s", s)
	}
}

// A change is sample's, in fewer words: rows of another package's type need their fields' names.
type change struct {
	Old, New string
	E        api.Errno
}

func changed(t *testing.T, c change) string {
	t.Helper()
	s, is := sample.Change(c).In(whole)
	if !is {
		t.Fatalf("%q is not there once", c.Old)
	}
	return s
}

// power is 2 to the power of w, less 1 or 0; of 128 bits, if there are no more.
func power(w, less int) api.Num {
	return num.Sub(num.Shl(num.Of(1), w, 128), num.Of(uint64(less)), 128)
}

// free is a number without a width.
func free(n api.Num) api.Expr { return api.Expr{Op: api.ExLit, Lit: api.Lit{N: n}} }

// needs is the least width that a number fits, reckoned in another way.
func needs(n api.Num) int { return new(big.Int).SetBytes(num.Bytes(n, 16)).BitLen() }
