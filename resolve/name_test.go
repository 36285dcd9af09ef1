package resolve_test

import (
	"math"
	"reflect"
	"testing"

	"quillon/api"
	"quillon/resolve"
)

// strangers are names that mean nothing in any program here.
func strangers() []string {
	return []string{"", "nobody", "H", "hh", "h ", " h", "h.f", "meta", "port", "default", "Accept", "\x00", long(16), long(17), long(1000)}
}

// nowhere are numbers of no header, and no action, where there are less than 8.
func nowhere() []int {
	return []int{-1, -2, -8, 8, 9, 1 << 20, math.MaxInt, math.MinInt}
}

func TestP7_1WhatNamesMean(t *testing.T) {
	p := wholeTree(t)
	for _, x := range []struct {
		what  string
		means func(p api.Program, name string) int
		names []string
		none  []string
	}{
		{"header", resolve.Header, []string{"h", "i"}, []string{"f", "m", "s", "a", "t", "x", "accept"}},
		{"metadata", resolve.Meta, []string{"m", "h"}, []string{"i", "f", "s", "a", "t", "x", "accept"}},
		{"action", resolve.Action, []string{"a", "b", "c"}, []string{"h", "t", "s", "x", "y", "m", "accept"}},
		{"table", resolve.Table, []string{"t", "a"}, []string{"b", "h", "s", "u", "m", "accept"}},
	} {
		for n, name := range x.names {
			if got := x.means(p, name); got != n {
				t.Errorf("the %s %s is %d, want %d", x.what, name, got, n)
			}
			if got := x.means(api.Program{}, name); got != -1 {
				t.Errorf("of nothing the %s %s is %d", x.what, name, got)
			}
		}
		for _, name := range append(strangers(), x.none...) {
			if got := x.means(p, name); got != -1 {
				t.Errorf("the %s %q is %d, want none", x.what, name, got)
			}
		}
	}
}

func TestP7_1WhatPartsNamesMean(t *testing.T) {
	p := wholeTree(t)
	for _, x := range []struct {
		what  string
		means func(p api.Program, of int, name string) int
		names [][]string
	}{
		{"field", resolve.Field, [][]string{{"f", "g", "x"}, {"f"}}},
		{"parameter", resolve.Param, [][]string{{"x", "y"}, {"x"}, {}}},
	} {
		for of, names := range x.names {
			want := map[string]int{}
			for n, name := range names {
				want[name] = n
			}
			for _, name := range append(strangers(), "f", "g", "x", "y", "h", "i", "a", "b", "m", "s", "t") {
				n, is := want[name]
				if !is {
					n = -1
				}
				if got := x.means(p, of, name); got != n {
					t.Errorf("the %s %q of %d is %d, want %d", x.what, name, of, got, n)
				}
			}
		}
		for _, of := range append(nowhere(), len(x.names)) {
			for _, name := range []string{"f", "x", "y", ""} {
				if got := x.means(p, of, name); got != -1 {
					t.Errorf("the %s %q of %d is %d, want none", x.what, name, of, got)
				}
			}
		}
		for _, of := range append(nowhere(), 0) {
			if got := x.means(api.Program{}, of, "x"); got != -1 {
				t.Errorf("of nothing the %s x of %d is %d", x.what, of, got)
			}
		}
	}
}

func wantState(t *testing.T, p api.Program, name string, want int, wantIs bool) {
	t.Helper()
	if got, is := resolve.State(p, name); got != want || is != wantIs {
		t.Errorf("State(%q) = %d, %v, want %d, %v", name, got, is, want, wantIs)
	}
}

func TestP7_1State(t *testing.T) {
	p := wholeTree(t)
	for n, name := range []string{"s", "t", "u", "w"} {
		wantState(t, p, name, n, true)
		wantState(t, api.Program{}, name, 0, false)
	}
	for _, name := range append(strangers(), "h", "a", "m", "x", "f") {
		wantState(t, p, name, 0, false)
	}
	// accept and reject are states, whatever there is beside.
	named := api.Program{States: []api.State{{Name: "s"}, {Name: "reject"}, {Name: "accept"}}}
	for _, p := range []api.Program{p, {}, named} {
		wantState(t, p, "accept", api.ToAccept, true)
		wantState(t, p, "reject", api.ToReject, true)
	}
	if api.ToAccept != -1 || api.ToReject != -2 {
		t.Error("accept and reject have other numbers")
	}
}

// A name means the first one that has it, and in a header or an action that is not the first one of its name what that has.
func TestP7_1TheFirstOne(t *testing.T) {
	one, two := api.Field{Name: "one", W: 8}, api.Field{Name: "two", W: 16}
	p := api.Program{
		Headers: []api.Header{{Name: "a"}, {Name: "x", Fields: []api.Field{one, two, two, one}}, {Name: "x", Fields: []api.Field{two, two, one}}},
		Metas:   []api.Field{one, two, {Name: "x"}, {Name: "x"}, two},
		States:  []api.State{{Name: "a"}, {Name: "b"}, {Name: "x", To: "a"}, {Name: "x"}, {Name: "b"}},
		Actions: []api.Action{{Name: "x", Params: []api.Field{two, one, one, two}}, {Name: "x", Params: []api.Field{one, one, two}}},
		Tables:  []api.Table{{Name: "a"}, {Name: "b"}, {Name: "c"}, {Name: "x"}, {Name: "x"}, {Name: "a"}},
	}
	for what, x := range map[string][2]int{
		"header x":         {resolve.Header(p, "x"), 1},
		"field one of 1":   {resolve.Field(p, 1, "one"), 0},
		"field two of 1":   {resolve.Field(p, 1, "two"), 1},
		"field one of 2":   {resolve.Field(p, 2, "one"), 2},
		"field two of 2":   {resolve.Field(p, 2, "two"), 0},
		"metadata x":       {resolve.Meta(p, "x"), 2},
		"metadata two":     {resolve.Meta(p, "two"), 1},
		"action x":         {resolve.Action(p, "x"), 0},
		"parameter one/0":  {resolve.Param(p, 0, "one"), 1},
		"parameter two/0":  {resolve.Param(p, 0, "two"), 0},
		"parameter one/1":  {resolve.Param(p, 1, "one"), 0},
		"parameter two/1":  {resolve.Param(p, 1, "two"), 2},
		"table x":          {resolve.Table(p, "x"), 3},
		"table a":          {resolve.Table(p, "a"), 0},
		"field one of 0":   {resolve.Field(p, 0, "one"), -1},
		"parameter x of 0": {resolve.Param(p, 0, "x"), -1},
	} {
		if x[0] != x[1] {
			t.Errorf("%s is %d, want %d", what, x[0], x[1])
		}
	}
	wantState(t, p, "x", 2, true)
	wantState(t, p, "b", 1, true)
}

func TestP7_1Bits(t *testing.T) {
	for _, x := range []struct {
		widths []int
		want   int
	}{
		{nil, 0}, {[]int{1}, 1}, {[]int{8}, 8}, {[]int{3, 5}, 8}, {[]int{128, 128}, 256}, {[]int{128, 128, 1}, 257},
		{[]int{1, 2, 4, 8, 16, 32, 64, 128, 1, 2, 4, 8, 16, 32, 64, 128}, 510},
		{[]int{0, -3, 1000, 7}, 1004},
	} {
		h := api.Header{Name: "h"}
		for _, w := range x.widths {
			h.Fields = append(h.Fields, api.Field{Name: "f", W: w})
		}
		if got := resolve.Bits(h); got != x.want {
			t.Errorf("Bits of %v is %d, want %d", x.widths, got, x.want)
		}
	}
	p := wholeTree(t)
	if a, b := resolve.Bits(p.Headers[0]), resolve.Bits(p.Headers[1]); a != 16 || b != 16 {
		t.Errorf("Bits of h and i: %d, %d", a, b)
	}
}

func wantNames(t *testing.T, p api.Program, action int, e api.Expr, want api.Errno) {
	t.Helper()
	if got := resolve.Names(p, action, e); got != want {
		t.Errorf("Names of %d, %.300v is %d, want %d", action, e, got, want)
	}
}

func TestP7_2Names(t *testing.T) {
	p := wholeTree(t)
	for _, x := range []struct {
		e    api.Expr
		want api.Errno
	}{
		{lit(0, 1), api.OK}, {lit(8, 1), api.OK}, {port(), api.OK},
		{field("h", "f"), api.OK}, {field("h", "x"), api.OK}, {field("i", "f"), api.OK},
		{field("i", "g"), api.ErrNone}, {field("h", "h"), api.ErrNone}, {field("h", "nobody"), api.ErrNone}, {field("nobody", "f"), api.ErrNone},
		{field("f", "h"), api.ErrNone}, {field("m", "f"), api.ErrNone}, {field("a", "x"), api.ErrNone}, {field("", ""), api.ErrNone},
		{meta("m"), api.OK}, {meta("h"), api.OK}, {meta("i"), api.ErrNone}, {meta("f"), api.ErrNone}, {meta("x"), api.ErrNone}, {meta(""), api.ErrNone},
		{valid("h"), api.OK}, {valid("i"), api.OK}, {valid("m"), api.ErrNone}, {valid("f"), api.ErrNone}, {valid("nobody"), api.ErrNone}, {valid(""), api.ErrNone},
	} {
		for _, action := range append(nowhere(), 0, 1, 2, 3) {
			wantNames(t, p, action, x.e, x.want)
			wantNames(t, p, action, of(api.ExNot, x.e), x.want)
		}
		if len(x.e.Head)+len(x.e.Name) > 0 {
			wantNames(t, api.Program{}, -1, x.e, api.ErrNone)
		} else if x.want == api.OK {
			wantNames(t, api.Program{}, -1, x.e, api.OK)
		}
	}
}

// A parameter's name is there in its action's statements alone.
func TestP7_2NamesOfParameters(t *testing.T) {
	p := wholeTree(t)
	there := map[int][]string{0: {"x", "y"}, 1: {"x"}}
	for _, action := range append(nowhere(), 0, 1, 2, 3) {
		for _, name := range append(strangers(), "x", "y", "h", "m", "f", "a", "b", "i") {
			want := api.ErrNone
			for _, s := range there[action] {
				if s == name {
					want = api.OK
				}
			}
			wantNames(t, p, action, param(name), want)
			wantNames(t, p, action, of(api.ExAdd, lit(0, 1), param(name)), want)
		}
	}
}

// A name is looked for in each place of each kind of expression, however deep.
func TestP7_2NamesWithin(t *testing.T) {
	p := wholeTree(t)
	good := []api.Expr{field("h", "f"), meta("m"), param("y"), valid("i")}
	for i, bad := range []api.Expr{field("h", "nobody"), meta("nobody"), param("nobody"), valid("nobody")} {
		for op := api.ExNot; op <= api.ExAny; op++ {
			args := 2
			if op <= api.ExSlice {
				args = 1
			}
			for at := range args {
				l := []api.Expr{good[i], good[i]}[:args]
				e := of(op, l...)
				wantNames(t, p, 0, e, api.OK)
				l[at] = bad
				wantNames(t, p, 0, of(op, l...), api.ErrNone)
				wantNames(t, p, 0, of(api.ExBoth, e, of(api.ExBang, of(op, l...))), api.ErrNone)
				wantNames(t, p, 0, slice(of(api.ExCat, of(op, l...), e), 1, 1), api.ErrNone)
			}
		}
		a, b := good[i], bad
		const deepest = 1 << 16
		for depth := range deepest {
			if depth < 20 || depth == deepest-1 {
				wantNames(t, p, 0, a, api.OK)
				wantNames(t, p, 0, b, api.ErrNone)
			}
			a, b = of(api.ExOr, a, lit(0, 0)), of(api.ExOr, b, lit(0, 0))
		}
	}
	// Names are those of the expression's kind alone.
	wantNames(t, p, -1, api.Expr{Op: api.ExPort, Head: "nobody", Name: "nobody"}, api.OK)
	wantNames(t, p, -1, api.Expr{Op: api.ExValid, Head: "h", Name: "nobody"}, api.OK)
	wantNames(t, p, -1, api.Expr{Op: api.ExMeta, Head: "nobody", Name: "m"}, api.OK)
	wantNames(t, p, -1, api.Expr{}, api.OK)
	wantNames(t, p, -1, api.Expr{Op: 255}, api.OK)
}

func TestP7_2NamesStay(t *testing.T) {
	p := wholeTree(t)
	e := of(api.ExAdd, field("h", "f"), of(api.ExNeg, param("x")))
	wantNames(t, p, 0, e, api.OK)
	wantNames(t, p, -1, e, api.ErrNone)
	if !reflect.DeepEqual(p, wholeTree(t)) || !reflect.DeepEqual(e, of(api.ExAdd, field("h", "f"), of(api.ExNeg, param("x")))) {
		t.Error("what was handed in is changed")
	}
}
