package types_test

import (
	"math/big"
	"reflect"
	"strings"
	"testing"

	"quillon/api"
	"quillon/num"
	"quillon/parse"
	"quillon/print"
	"quillon/sample"
	"quillon/types"
)

var (
	lit, field, meta, param, port, valid = sample.Lit, sample.Field, sample.Meta, sample.Param, sample.Port, sample.Valid
	of, slice                            = sample.Of, sample.Slice
)

// whole is a program with nothing wrong, of whose names sample's Maker makes expressions.
const whole = sample.Typed

func wholeTree(t *testing.T) api.Program {
	t.Helper()
	p, _, f := parse.Program(whole)
	if f != (api.Fault{}) {
		t.Fatal(f)
	}
	return p
}

func expr(t *testing.T, s string) api.Expr {
	t.Helper()
	e, f := parse.Expr(s)
	if f != (api.Fault{}) {
		t.Fatalf("%v in %s", f, s)
	}
	return e
}

// A told type is a width's digits, truth, free, or an error's word of layer 2: none, kind, width, over.
func told(t *testing.T, s string) (api.Type, api.Errno) {
	t.Helper()
	switch s {
	case "truth":
		return api.Type{Truth: true}, api.OK
	case "free":
		return api.Type{Free: true}, api.OK
	case "none":
		return api.Type{}, api.ErrNone
	case "kind":
		return api.Type{}, api.ErrKind
	case "width":
		return api.Type{}, api.ErrWidth
	case "over":
		return api.Type{}, api.ErrOver
	}
	n, e := num.Parse(s)
	if e != api.OK {
		t.Fatalf("no type: %s", s)
	}
	return api.Type{W: int(n.Lo)}, api.OK
}

func wantOf(t *testing.T, p api.Program, action int, e api.Expr, want api.Type, wantErr api.Errno) {
	t.Helper()
	if got, err := types.Of(p, action, e); got != want || err != wantErr {
		t.Errorf("in action %d Of %.300s is %+v, %d, want %+v, %d", action, print.Expr(e), got, err, want, wantErr)
	}
}

func wantGoes(t *testing.T, p api.Program, action int, e api.Expr, w int, want api.Errno) {
	t.Helper()
	if got := types.Goes(p, action, e, w); got != want {
		t.Errorf("in action %d Goes %.300s to %d is %d, want %d", action, print.Expr(e), w, got, want)
	}
}

// wantCheck wants the error at the item where the @ stands; without one, none.
func wantCheck(t *testing.T, s string, e api.Errno) {
	t.Helper()
	p, want, is := sample.Marked(s)
	if !is || strings.Contains(s, "@") != (e != api.OK) {
		t.Fatalf("no program, or no place of %d, in\n%s", e, s)
	}
	if n, got := types.Check(p); n != want || got != e {
		t.Errorf("Check is %d, %d, want %d, %d, of\n%s", n, got, want, e, s)
	}
	if q, _, _ := sample.Marked(s); !reflect.DeepEqual(p, q) {
		t.Errorf("Check changed\n%s", s)
	}
}

// A change is sample's, in fewer words: rows of another package's type need their fields' names.
type change struct {
	Old, New string
	E        api.Errno
}

func changed(t *testing.T, c change) string {
	t.Helper()
	s, is := sample.Change(c).In(whole)
	if !is {
		t.Fatalf("%q is not there once", c.Old)
	}
	return s
}

// power is 2 to the power of w, less 1 or 0; of 128 bits, if there are no more.
func power(w, less int) api.Num {
	return num.Sub(num.Shl(num.Of(1), w, 128), num.Of(uint64(less)), 128)
}

// free is a number without a width.
func free(n api.Num) api.Expr { return api.Expr{Op: api.ExLit, Lit: api.Lit{N: n}} }

// needs is the least width that a number fits, reckoned in another way.
func needs(n api.Num) int { return new(big.Int).SetBytes(num.Bytes(n, 16)).BitLen() }
