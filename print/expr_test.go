package print_test

import (
	"math"
	"math/big"
	"reflect"
	"strconv"
	"strings"
	"testing"

	"quillon/api"
	"quillon/ast"
	"quillon/num"
	"quillon/print"
	"quillon/sample"
)

var (
	lit, field, meta, param, port, valid = sample.Lit, sample.Field, sample.Meta, sample.Param, sample.Port, sample.Valid
	of, slice, drop, when                = sample.Of, sample.Slice, sample.Drop, sample.If
)

func wantExpr(t *testing.T, e api.Expr, want string) {
	t.Helper()
	if got := print.Expr(e); got != want {
		t.Errorf("Expr(%.300v) = %.300q, want %.300q", e, got, want)
	}
}

type printed struct {
	e api.Expr
	s string
}

// ofKinds are an expression of each kind, in their order, and its text.
func ofKinds() []printed {
	return []printed{
		{lit(8, 255), "8w255"},
		{field("a", "b"), "a.b"},
		{meta("c"), "meta.c"},
		{param("d"), "d"},
		{port(), "port"},
		{valid("a"), "isValid(a)"},
		{of(api.ExNot, port()), "~port"},
		{of(api.ExNeg, port()), "-port"},
		{of(api.ExBang, port()), "!port"},
		{slice(port(), 7, 3), "port[7:3]"},
		{of(api.ExCat, port(), meta("c")), "port ++ meta.c"},
		{of(api.ExAdd, port(), meta("c")), "port + meta.c"},
		{of(api.ExSub, port(), meta("c")), "port - meta.c"},
		{of(api.ExShl, port(), lit(0, 3)), "port << 3"},
		{of(api.ExShr, port(), lit(0, 3)), "port >> 3"},
		{of(api.ExAnd, port(), meta("c")), "port & meta.c"},
		{of(api.ExXor, port(), meta("c")), "port ^ meta.c"},
		{of(api.ExOr, port(), meta("c")), "port | meta.c"},
		{of(api.ExEq, port(), meta("c")), "port == meta.c"},
		{of(api.ExNe, port(), meta("c")), "port != meta.c"},
		{of(api.ExLt, port(), meta("c")), "port < meta.c"},
		{of(api.ExLe, port(), meta("c")), "port <= meta.c"},
		{of(api.ExGt, port(), meta("c")), "port > meta.c"},
		{of(api.ExGe, port(), meta("c")), "port >= meta.c"},
		{of(api.ExBoth, port(), meta("c")), "port && meta.c"},
		{of(api.ExAny, port(), meta("c")), "port || meta.c"},
	}
}

// withArg is an expression with another one in place of one of its Args.
func withArg(e api.Expr, i int, arg api.Expr) api.Expr {
	e.Args = append([]api.Expr{}, e.Args...)
	e.Args[i] = arg
	return e
}

func inBrackets(k printed) string {
	if len(k.e.Args) > 0 {
		return "(" + k.s + ")"
	}
	return k.s
}

func TestP5_1Examples(t *testing.T) {
	wantExpr(t, of(api.ExAdd, port(), of(api.ExNot, lit(8, 5))), "port + (~8w5)")
	wantExpr(t, slice(of(api.ExCat, field("a", "b"), meta("c")), 7, 0), "(a.b ++ meta.c)[7:0]")
}

func TestP5_1Kinds(t *testing.T) {
	kinds := ofKinds()
	for op := range 256 {
		if 1 <= op && op <= 26 {
			k := kinds[op-1]
			if int(k.e.Op) != op {
				t.Fatalf("kind %d in place of %d", k.e.Op, op)
			}
			wantExpr(t, k.e, k.s)
			continue
		}
		for _, k := range kinds {
			k.e.Op = uint8(op)
			wantExpr(t, k.e, "")
		}
	}
	wantExpr(t, api.Expr{}, "")
}

// Each expression in each place of each other one is an atom there.
func TestP5_1Atoms(t *testing.T) {
	const hole = "hole"
	for _, outer := range ofKinds() {
		for i := range outer.e.Args {
			if (outer.e.Op == api.ExShl || outer.e.Op == api.ExShr) && i == 1 {
				continue // a number alone stands there
			}
			places := print.Expr(withArg(outer.e, i, param(hole)))
			if strings.Count(places, hole) != 1 {
				t.Errorf("%q has not one %s", places, hole)
			}
			for _, inner := range ofKinds() {
				want := strings.Replace(places, hole, inBrackets(inner), 1)
				e := withArg(outer.e, i, inner.e)
				wantExpr(t, e, want)
				wantExpr(t, of(api.ExNot, e), "~("+want+")")
				wantExpr(t, of(api.ExOr, lit(0, 0), e), "0 | ("+want+")")
			}
		}
	}
}

// Brackets tell apart what stands beside each other, whatever binds stronger.
func TestP5_1Brackets(t *testing.T) {
	a, b, c := meta("a"), meta("b"), meta("c")
	for _, x := range []printed{
		{of(api.ExSub, of(api.ExSub, a, b), c), "(meta.a - meta.b) - meta.c"},
		{of(api.ExSub, a, of(api.ExSub, b, c)), "meta.a - (meta.b - meta.c)"},
		{of(api.ExAny, of(api.ExBoth, a, b), c), "(meta.a && meta.b) || meta.c"},
		{of(api.ExNeg, of(api.ExNeg, a)), "-(-meta.a)"},
		{of(api.ExSub, a, of(api.ExNeg, b)), "meta.a - (-meta.b)"},
		{of(api.ExBang, valid("h")), "!isValid(h)"},
		{slice(slice(a, 9, 3), 2, 0), "(meta.a[9:3])[2:0]"},
		{slice(of(api.ExNot, a), 0, 0), "(~meta.a)[0:0]"},
		{of(api.ExNot, slice(a, 127, 126)), "~(meta.a[127:126])"},
		{slice(lit(8, 1), 7, 0), "8w1[7:0]"},
		{of(api.ExShr, of(api.ExShl, a, lit(0, 0)), lit(0, 127)), "(meta.a << 0) >> 127"},
	} {
		wantExpr(t, x.e, x.s)
	}
}

func TestP5_1Names(t *testing.T) {
	for _, s := range []string{"a", "Z9", "_a", "__", "w8", "x_1", "metadat", strings.Repeat("q", 16)} {
		wantExpr(t, field(s, "f"), s+".f")
		wantExpr(t, field("h", s), "h."+s)
		wantExpr(t, meta(s), "meta."+s)
		wantExpr(t, param(s), s)
		wantExpr(t, valid(s), "isValid("+s+")")
	}
}

func TestP5_1Slices(t *testing.T) {
	for hi := -1; hi <= 128; hi++ {
		for lo := -1; lo <= 128; lo++ {
			want := "port[" + strconv.Itoa(hi) + ":" + strconv.Itoa(lo) + "]"
			if lo < 0 || lo > hi || hi > 127 {
				want = ""
			}
			wantExpr(t, slice(port(), hi, lo), want)
		}
	}
}

func wantLit(t *testing.T, l api.Lit, want string) {
	t.Helper()
	if got := print.Lit(l); got != want {
		t.Errorf("Lit(%v) = %q, want %q", l, got, want)
	}
	wantExpr(t, api.Expr{Op: api.ExLit, Lit: l}, want)
	if want != "" {
		wantExpr(t, slice(api.Expr{Op: api.ExLit, Lit: l}, 1, 1), want+"[1:1]")
	}
}

func digits(n api.Num) string {
	x := new(big.Int).SetUint64(n.Hi)
	return x.Lsh(x, 64).Or(x, new(big.Int).SetUint64(n.Lo)).String()
}

func TestP5_1Lit(t *testing.T) {
	wantLit(t, api.Lit{}, "0")
	wantLit(t, api.Lit{N: num.Of(7)}, "7")
	wantLit(t, api.Lit{W: 1}, "1w0")
	wantLit(t, api.Lit{W: 8, N: num.Of(5)}, "8w5")
	wantLit(t, api.Lit{W: 65, N: api.Num{Hi: 1}}, "65w18446744073709551616")
	wantLit(t, api.Lit{N: num.Mask(128)}, "340282366920938463463374607431768211455")
	wantLit(t, api.Lit{W: 128, N: num.Mask(128)}, "128w340282366920938463463374607431768211455")
	for w := 1; w <= 128; w++ {
		for _, n := range []api.Num{num.Of(0), num.Of(1), num.Mask(w - 1), num.Mask(w), num.Shl(num.Of(1), w-1, 128)} {
			wantLit(t, api.Lit{W: w, N: n}, strconv.Itoa(w)+"w"+digits(n))
			wantLit(t, api.Lit{N: n}, digits(n))
		}
		if w < 128 {
			wantLit(t, api.Lit{W: w, N: num.Shl(num.Of(1), w, 128)}, "")
			wantLit(t, api.Lit{W: w, N: num.Mask(128)}, "")
		}
	}
	for _, w := range []int{-1, -8, 129, 256, 1<<32 + 8, math.MaxInt, math.MinInt} {
		wantLit(t, api.Lit{W: w}, "")
		wantLit(t, api.Lit{W: w, N: num.Of(1)}, "")
	}
}

func TestP5_1Deep(t *testing.T) {
	notted, added, sliced := "port", "port", "port"
	n, a, s := port(), port(), port()
	for depth := 1; depth <= 18; depth++ {
		if depth > 16 {
			notted, added, sliced = "", "", ""
		}
		wantExpr(t, n, notted)
		wantExpr(t, a, added)
		wantExpr(t, s, sliced)
		if depth == 1 {
			notted, added, sliced = "~port", "port + port", "port[9:1]"
		} else {
			notted, added, sliced = "~("+notted+")", "("+added+") + ("+added+")", "("+sliced+")[9:1]"
		}
		n, a, s = of(api.ExNot, n), of(api.ExAdd, a, a), slice(s, 9, 1)
	}
}

// noExprs are expressions that may not be, for one reason each.
func noExprs() []api.Expr {
	l := []api.Expr{
		{}, {Op: 27}, {Op: 255}, lit(8, 256), lit(129, 0), lit(-1, 0), param(""), param("if"), param("a b"), param(strings.Repeat("q", 17)), meta("port"), meta(""), field("a", ""), field("", "a"), field("meta", "a"), valid(""), valid("1"),
		of(api.ExNot), of(api.ExNot, port(), port()), of(api.ExAdd), of(api.ExAdd, port()), of(api.ExAdd, port(), port(), port()), of(api.ExPort, port()), of(api.ExSlice), slice(port(), 0, 1), slice(port(), 128, 0), slice(port(), 5, -1),
		of(api.ExShl, port(), port()), of(api.ExShr, port(), lit(8, 1)), of(api.ExShl, port(), lit(0, 128)),
		{Op: api.ExPort, Name: "a"}, {Op: api.ExPort, Head: "a"}, {Op: api.ExPort, Hi: 1}, {Op: api.ExPort, Lit: api.Lit{W: 1}}, {Op: api.ExMeta, Name: "a", Head: "a"},
	}
	round := []api.Expr{{Op: api.ExAdd}, {Op: api.ExAdd}}
	round[0].Args, round[1].Args = round, round
	return append(l, round[0])
}

func TestP5_1Nothing(t *testing.T) {
	for _, bad := range noExprs() {
		wantExpr(t, bad, "")
		for _, k := range ofKinds() {
			for i := range k.e.Args {
				wantExpr(t, withArg(k.e, i, bad), "")
				wantExpr(t, of(api.ExBang, withArg(k.e, i, bad)), "")
			}
		}
	}
}

// Two expressions that may be have the same text just if they are the same.
func TestP5_1SameText(t *testing.T) {
	atoms := []api.Expr{lit(0, 1), lit(1, 1), lit(11, 1), lit(0, 11), param("a"), param("w1"), field("a", "b"), field("b", "a"), meta("a"), port(), valid("a")}
	all := append([]api.Expr{}, atoms...)
	for _, k := range ofKinds() {
		all = append(all, k.e)
	}
	for _, a := range atoms {
		all = append(all, of(api.ExNeg, a), of(api.ExNeg, of(api.ExNeg, a)), slice(a, 1, 1), slice(slice(a, 1, 1), 11, 1), slice(a, 11, 1))
		for _, b := range atoms {
			all = append(all, of(api.ExSub, a, b), of(api.ExSub, of(api.ExNeg, a), b), of(api.ExNeg, of(api.ExSub, a, b)), slice(of(api.ExSub, a, b), 1, 1), of(api.ExSub, a, slice(b, 1, 1)))
		}
	}
	texts := map[string]api.Expr{}
	for _, e := range all {
		s := print.Expr(e)
		if s == "" {
			t.Errorf("%v has no text", e)
		}
		if other, is := texts[s]; is && !ast.SameExpr(e, other) {
			t.Errorf("%v and %v are both %q", e, other, s)
		}
		texts[s] = e
		empty := e
		empty.Args = append([]api.Expr{}, e.Args...)
		wantExpr(t, empty, s) // an empty list is one that is not there
	}
}

func TestP5_1ExpressionsStayAsTheyAre(t *testing.T) {
	for i, k := range ofKinds() {
		if print.Expr(k.e) != print.Expr(k.e) {
			t.Errorf("another text of %v", k.e)
		}
		if !reflect.DeepEqual(k, ofKinds()[i]) {
			t.Errorf("%v was changed", k.e)
		}
	}
}
