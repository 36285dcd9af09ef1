package ast_test

import (
	"math"
	"reflect"
	"strings"
	"testing"

	"quillon/api"
	"quillon/ast"
	"quillon/num"
)

func wantMayExpr(t *testing.T, e api.Expr, want bool) {
	t.Helper()
	if got := ast.MayExpr(e); got != want {
		t.Errorf("MayExpr(%.300v) is %v", e, got)
	}
}

// ofKinds are an expression of each kind that may be, and what belongs to it beside its Args.
func ofKinds() map[uint8]struct {
	e   api.Expr
	has string
} {
	type made = struct {
		e   api.Expr
		has string
	}
	l := map[uint8]made{
		api.ExLit:   {lit(8, 255), "lit"},
		api.ExField: {field("a", "b"), "head name"},
		api.ExMeta:  {meta("c"), "name"},
		api.ExParam: {param("c"), "name"},
		api.ExPort:  {port(), ""},
		api.ExValid: {valid("a"), "head"},
		api.ExNot:   {of(api.ExNot, port()), ""},
		api.ExNeg:   {of(api.ExNeg, port()), ""},
		api.ExBang:  {of(api.ExBang, port()), ""},
		api.ExSlice: {slice(port(), 7, 3), "slice"},
		api.ExShl:   {of(api.ExShl, port(), lit(0, 3)), ""},
		api.ExShr:   {of(api.ExShr, port(), lit(0, 3)), ""},
	}
	for _, op := range []uint8{
		api.ExCat, api.ExAdd, api.ExSub, api.ExAnd, api.ExXor, api.ExOr, api.ExEq, api.ExNe, api.ExLt, api.ExLe, api.ExGt, api.ExGe, api.ExBoth, api.ExAny,
	} {
		l[op] = made{of(op, port(), lit(8, 255)), ""}
	}
	return l
}

func TestP4_1Examples(t *testing.T) {
	e := of(api.ExAdd, port(), port())
	wantMayExpr(t, e, true)
	if d := ast.Depth(e); d != 2 {
		t.Errorf("Depth of port + port is %d", d)
	}
	wantMayExpr(t, of(api.ExShl, port(), port()), false)
}

func TestP4_1KindsOfExpressions(t *testing.T) {
	kinds := ofKinds()
	if len(kinds) != 26 {
		t.Fatalf("%d kinds", len(kinds))
	}
	for op := range 256 {
		k, is := kinds[uint8(op)]
		if is {
			wantMayExpr(t, k.e, true)
			continue
		}
		// No form makes something of a kind that there is not.
		for _, k := range kinds {
			k.e.Op = uint8(op)
			wantMayExpr(t, k.e, false)
		}
	}
	wantMayExpr(t, api.Expr{}, false)
}

func TestP4_1WhatBelongsToAnExpression(t *testing.T) {
	for _, k := range ofKinds() {
		more := func(has string, change func(e *api.Expr)) {
			t.Helper()
			e := k.e
			change(&e)
			wantMayExpr(t, e, strings.Contains(k.has, has))
		}
		more("lit", func(e *api.Expr) { e.Lit = api.Lit{W: 8} })
		more("lit", func(e *api.Expr) { e.Lit = api.Lit{N: num.Of(1)} })
		more("lit", func(e *api.Expr) { e.Lit = api.Lit{N: api.Num{Hi: 1}} })
		more("lit", func(e *api.Expr) { e.Lit = api.Lit{W: 128, N: num.Mask(128)} })
		more("head", func(e *api.Expr) { e.Head = "x" })
		more("name", func(e *api.Expr) { e.Name = "x" })
		more("slice", func(e *api.Expr) { e.Hi, e.Lo = 1, 0 })
		more("slice", func(e *api.Expr) { e.Hi, e.Lo = 1, 1 })
		more("never", func(e *api.Expr) { e.Hi, e.Lo = 0, 1 })
		more("never", func(e *api.Expr) { e.Args = append(e.Args[:len(e.Args):len(e.Args)], port()) })
		more("never", func(e *api.Expr) { e.Args = append(e.Args[:len(e.Args):len(e.Args)], lit(0, 1), lit(0, 1)) })

		e := k.e
		e.Head, e.Name = "", ""
		wantMayExpr(t, e, k.e.Head == "" && k.e.Name == "")
		e = k.e
		e.Lit = api.Lit{}
		wantMayExpr(t, e, true) // the number is 0 without a width then, or none belonged to it
		for n := range k.e.Args {
			e = k.e
			e.Args = e.Args[:n]
			wantMayExpr(t, e, false)
		}
		e = k.e
		e.Args = append([]api.Expr{}, e.Args...)
		wantMayExpr(t, e, true) // an empty list is one that is not there
	}
}

func TestP4_1NamesOfExpressions(t *testing.T) {
	for _, s := range []string{"a", "Z9", "_a", "__", "x_1", long(16)} {
		for _, e := range []api.Expr{field(s, "a"), field("a", s), field(s, s), meta(s), param(s), valid(s), of(api.ExNot, valid(s))} {
			wantMayExpr(t, e, true)
		}
	}
	for _, s := range append(noNames(), "", "accept", "reject") {
		for _, e := range []api.Expr{field(s, "a"), field("a", s), field(s, s), meta(s), param(s), valid(s), of(api.ExNot, valid(s))} {
			wantMayExpr(t, e, false)
		}
	}
}

func TestP4_1Numbers(t *testing.T) {
	one := num.Of(1)
	for w := 1; w <= 128; w++ {
		for _, x := range []struct {
			n    api.Num
			want bool
		}{{num.Of(0), true}, {one, true}, {num.Mask(w), true}, {num.Mask(w - 1), true}, {num.Shl(one, w, 128), w == 128}, {num.Mask(w + 1), w == 128}, {num.Mask(128), w == 128}} {
			wantMayExpr(t, api.Expr{Op: api.ExLit, Lit: api.Lit{W: w, N: x.n}}, x.want)
		}
	}
	for _, n := range []api.Num{num.Of(0), one, num.Of(math.MaxUint64), {Hi: 1}, num.Mask(128)} {
		wantMayExpr(t, api.Expr{Op: api.ExLit, Lit: api.Lit{N: n}}, true)
		for _, w := range []int{-1, -8, -128, 129, 130, 256, 257, math.MaxInt, math.MinInt} {
			wantMayExpr(t, api.Expr{Op: api.ExLit, Lit: api.Lit{W: w, N: n}}, false)
		}
	}
}

func TestP4_1Slices(t *testing.T) {
	places := []int{math.MinInt, -128, -1, 0, 1, 7, 63, 64, 126, 127, 128, 129, 255, 256, math.MaxInt}
	for _, hi := range places {
		for _, lo := range places {
			wantMayExpr(t, slice(port(), hi, lo), lo >= 0 && hi <= 127 && hi >= lo)
		}
	}
	// A slice may be of any other expression, also of a slice; its width is not looked at here.
	wantMayExpr(t, slice(slice(lit(1, 1), 0, 0), 127, 127), true)
	wantMayExpr(t, slice(truth(), 100, 3), true)
}

func TestP4_1Shifts(t *testing.T) {
	for _, op := range []uint8{api.ExShl, api.ExShr} {
		for n := range uint64(300) {
			wantMayExpr(t, of(op, port(), lit(0, n)), n <= 127)
		}
		for _, n := range []api.Num{num.Of(1 << 32), num.Of(math.MaxUint64), {Hi: 1}, {Hi: 1, Lo: 5}, num.Mask(128)} {
			wantMayExpr(t, of(op, port(), api.Expr{Op: api.ExLit, Lit: api.Lit{N: n}}), false)
		}
		for _, e := range []api.Expr{
			lit(1, 1), lit(7, 127), lit(8, 3), lit(128, 0), lit(-1, 0), port(), meta("a"), param("a"), field("a", "b"), valid("a"), slice(lit(0, 1), 1, 0),
			of(api.ExNeg, lit(0, 1)), of(api.ExAdd, lit(0, 1), lit(0, 1)), of(op, lit(0, 1), lit(0, 1)), {}, {Op: 27},
			{Op: api.ExLit, Name: "a"}, {Op: api.ExLit, Head: "a"}, {Op: api.ExLit, Hi: 1}, {Op: api.ExLit, Args: []api.Expr{lit(0, 1)}},
		} {
			wantMayExpr(t, of(op, port(), e), false)
		}
		// The first one is as any other: a number with a width, another shift.
		for _, e := range []api.Expr{lit(8, 200), lit(0, 200), truth(), of(op, port(), lit(0, 127))} {
			wantMayExpr(t, of(op, e, lit(0, 0)), true)
		}
		wantMayExpr(t, of(op, of(op, port(), lit(0, 128)), lit(0, 1)), false)
	}
}

// What is wrong in an expression is wrong with all that it stands in.
func TestP4_1WrongWithin(t *testing.T) {
	for _, bad := range []api.Expr{{}, {Op: 27}, lit(129, 0), lit(4, 16), meta("if"), field("a", ""), of(api.ExNot), of(api.ExAdd, port()), slice(port(), 3, 4), of(api.ExShl, port(), port())} {
		wantMayExpr(t, bad, false)
		for _, k := range ofKinds() {
			for i := range k.e.Args {
				e := k.e
				e.Args = append([]api.Expr{}, k.e.Args...)
				e.Args[i] = bad
				wantMayExpr(t, e, false)
				wantMayExpr(t, of(api.ExBoth, truth(), of(api.ExBang, e)), false)
			}
		}
	}
}

// chains are expressions of a depth, the deeper one of each pair at either side.
func chains(depth int) []api.Expr {
	l := []api.Expr{port(), lit(0, 1), valid("a"), port(), port(), port(), port(), port()}
	aside := port()
	for range depth - 1 {
		l[0] = of(api.ExNot, l[0])
		l[1] = of(api.ExCat, l[1], port())
		l[2] = of(api.ExBoth, port(), l[2])
		l[3] = slice(l[3], 1, 0)
		l[4] = of(api.ExShl, l[4], lit(0, 1))
		l[5] = of(api.ExSub, aside, l[5])
		aside = of(api.ExXor, port(), port())
		l[6] = of(api.ExSub, l[6], l[6])
		l[7] = of(api.ExBang, l[7])
	}
	return l
}

func TestP4_1Depth(t *testing.T) {
	for depth := 1; depth <= 18; depth++ {
		for i, e := range chains(depth) {
			if got := ast.Depth(e); got != depth {
				t.Errorf("Depth of chain %d of %d is %d", i, depth, got)
			}
			if got := ast.MayExpr(e); got != (depth <= 16) {
				t.Errorf("MayExpr of chain %d of %d is %v", i, depth, got)
			}
		}
	}
	for _, k := range ofKinds() {
		want := 1
		if len(k.e.Args) > 0 {
			want = 2
		}
		if got := ast.Depth(k.e); got != want {
			t.Errorf("Depth(%v) is %d", k.e, got)
		}
	}
}

// Depth is of all expressions, also of those that may not be: it hangs on Args alone.
func TestP4_1DepthOfWhatMayNotBe(t *testing.T) {
	deep := of(0, of(99, api.Expr{}))
	for _, x := range []struct {
		e    api.Expr
		want int
	}{
		{api.Expr{}, 1}, {api.Expr{Args: []api.Expr{}}, 1}, {deep, 3}, {of(api.ExPort, port()), 2},
		{of(api.ExLit, port(), deep, port()), 4}, {of(0, deep, port(), port()), 4}, {of(0, port(), port(), port(), deep), 4}, {of(0, times(port(), 1000)...), 2},
	} {
		if got := ast.Depth(x.e); got != x.want {
			t.Errorf("Depth(%.200v) is %d, not %d", x.e, got, x.want)
		}
		wantMayExpr(t, x.e, false)
	}
	const most = 1 << 16
	e := port()
	for range most - 1 {
		e = of(api.ExNot, e)
	}
	if got := ast.Depth(e); got != most {
		t.Errorf("Depth of %d is %d", most, got)
	}
	wantMayExpr(t, e, false)
	if !ast.SameExpr(e, e) || ast.SameExpr(e, e.Args[0]) {
		t.Error("SameExpr of the deepest ones")
	}
}

// What is without an end, or too wide to be gone through, is told to be too deep, or too many.
func TestP4_1EndsOfWhatIsTooMuch(t *testing.T) {
	round := []api.Expr{{Op: api.ExAdd}, {Op: api.ExAdd}}
	round[0].Args, round[1].Args = round, round
	wantMayExpr(t, round[0], false)
	e := port()
	for range 200 {
		e = of(api.ExXor, e, e)
	}
	wantMayExpr(t, e, false)
	wantMayExpr(t, of(api.ExNot, times(port(), 1<<16)...), false)
	block := make([]api.Stmt, api.MaxStmts)
	for i := range block {
		block[i] = when(truth(), block, block)
	}
	p := least()
	p.Control = block
	wantMay(t, p, false, "a block in itself")
}

func TestP4_2SameExpr(t *testing.T) {
	all := []api.Expr{
		{}, {Op: 27}, {Op: api.ExPort, Name: "a"}, {Op: api.ExPort, Head: "a"}, {Op: api.ExPort, Hi: 1}, {Op: api.ExPort, Lo: 1}, {Op: api.ExPort, Lit: api.Lit{W: 1}}, {Op: api.ExPort, Lit: api.Lit{N: num.Of(1)}}, {Op: api.ExPort, Lit: api.Lit{N: api.Num{Hi: 1}}},
		lit(0, 255), lit(9, 255), lit(8, 254), field("b", "a"), field("a", "a"), meta("d"), slice(port(), 7, 2), slice(port(), 6, 3),
		of(api.ExNot, of(api.ExNot, port())), of(api.ExSub, lit(8, 255), port()), of(api.ExSub, port(), port()), of(api.ExSub, port()), of(api.ExSub, port(), lit(8, 255), port()), of(api.ExSub),
		of(api.ExSub, of(api.ExNeg, meta("a")), meta("b")), of(api.ExSub, of(api.ExNeg, meta("b")), meta("b")), of(api.ExSub, of(api.ExNeg, meta("a")), meta("a")), of(api.ExSub, meta("a"), of(api.ExNeg, meta("b"))),
	}
	for op := uint8(1); op <= 26; op++ {
		all = append(all, ofKinds()[op].e)
	}
	for i, a := range all {
		for j, b := range all {
			if got := ast.SameExpr(a, b); got != (i == j) {
				t.Errorf("SameExpr(%v, %v) is %v", a, b, got)
			}
		}
		empty := a
		empty.Args = append([]api.Expr{}, a.Args...)
		if !ast.SameExpr(a, empty) || !ast.SameExpr(empty, a) {
			t.Errorf("SameExpr(%v) of a copy", a)
		}
	}
	for depth := 1; depth <= 17; depth++ {
		for i, e := range chains(depth) {
			other := of(api.ExNot, e)
			if !ast.SameExpr(e, chains(depth)[i]) || ast.SameExpr(e, other) || ast.SameExpr(other, e) {
				t.Errorf("SameExpr of chain %d of %d", i, depth)
			}
		}
	}
}

func TestP4_1ExpressionsStayAsTheyAre(t *testing.T) {
	for op, k := range ofKinds() {
		ast.MayExpr(k.e)
		ast.Depth(k.e)
		ast.SameExpr(k.e, k.e)
		if !reflect.DeepEqual(k, ofKinds()[op]) {
			t.Errorf("%v was changed", k.e)
		}
	}
}
