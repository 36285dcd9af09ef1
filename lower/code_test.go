package lower_test

import (
	"math"
	"reflect"
	"strings"
	"testing"

	"quillon/api"
	"quillon/lower"
	"quillon/num"
	"quillon/print"
	"quillon/sample"
)

// A row is a text of expressions or statements, and that of what it is lowered to.
type row struct{ text, told string }

func wantPreds(t *testing.T, rows []row) {
	t.Helper()
	p := typed(t)
	for _, x := range rows {
		c, e := lower.Pred(p, expr(t, x.text))
		if e != api.OK || told(c) != x.told {
			t.Errorf("Pred of %s is %s, %d, want %s", x.text, told(c), e, x.told)
		}
		if w, is := lower.Width(lowered(t, p), -1, c); w != 1 || !is {
			t.Errorf("of %s Width is %d, %v", x.text, w, is)
		}
	}
}

func wantKeys(t *testing.T, rows []row) {
	t.Helper()
	for _, x := range rows {
		if got := told(keyCode(t, x.text)); got != x.told {
			t.Errorf("%s is %s, want %s", x.text, got, x.told)
		}
	}
}

func TestP10_2Examples(t *testing.T) {
	c, e := lower.Pred(sample.Least(), sample.Of(api.ExGt, sample.Port(), sample.Lit(0, 1)))
	want := api.Code{{Op: api.OpPort, W: 9}, {Op: api.OpConst, W: 9, V: num.Of(1)}, {Op: api.OpLe, W: 1}, {Op: api.OpNot, W: 1}}
	if e != api.OK || !reflect.DeepEqual(c, want) {
		t.Errorf("Pred is %v, %d", c, e)
	}
	wantPreds(t, []row{{"port > 1", "port9 const9=1 le1 not1"}})
}

func TestP10_1CodesOfNumbersAndNames(t *testing.T) {
	wantKeys(t, []row{
		{"8w5", "const8=5"}, {"1w0", "const1"}, {"128w340282366920938463463374607431768211455", "const128=340282366920938463463374607431768211455"}, {"9w300", "const9=300"},
		{"h.f", "field8"}, {"h.g", "field3(0,1)"}, {"h.x", "field5(0,2)"}, {"i.f", "field16(1,0)"}, {"i.w", "field128(1,1)"},
		{"meta.m", "meta4"}, {"meta.h", "meta9(1,0)"}, {"meta.o", "meta1(2,0)"}, {"meta.w", "meta127(3,0)"}, {"meta.f", "meta2(4,0)"},
		{"port", "port9"},
	})
	wantPreds(t, []row{{"isValid(h)", "valid1"}, {"isValid(i)", "valid1(1,0)"}})
}

func TestP10_1CodesOfOne(t *testing.T) {
	wantKeys(t, []row{
		{"~h.f", "field8 not8"}, {"-h.f", "field8 neg8"}, {"~-i.w", "field128(1,1) neg128 not128"}, {"-8w5", "const8=5 neg8"},
		{"h.f[7:0]", "field8 slice8(7,0)"}, {"h.f[6:2]", "field8 slice5(6,2)"}, {"h.f[0:0]", "field8 slice1"}, {"i.w[127:127]", "field128(1,1) slice1(127,127)"},
		{"h.f[6:2][3:3]", "field8 slice5(6,2) slice1(3,3)"}, {"(~h.f)[3:0]", "field8 not8 slice4(3,0)"}, {"-h.f[3:0]", "field8 slice4(3,0) neg4"},
		{"h.f << 0", "field8 shl8"}, {"h.f << 9", "field8 shl8(9,0)"}, {"h.g >> 127", "field3(0,1) shr3(127,0)"}, {"port >> 1 << 2", "port9 shr9(1,0) shl9(2,0)"},
	})
	wantPreds(t, []row{
		{"!isValid(i)", "valid1(1,0) not1"}, {"!!isValid(h)", "valid1 not1 not1"}, {"!(port == 1)", "port9 const9=1 eq1 not1"}, {"!(port != 1)", "port9 const9=1 eq1 not1 not1"},
	})
}

func TestP10_1CodesOfTwo(t *testing.T) {
	wantKeys(t, []row{
		{"h.f ++ h.g", "field8 field3(0,1) cat11"}, {"h.g ++ h.f ++ port", "field3(0,1) field8 cat11 port9 cat20"}, {"h.g ++ (h.f ++ port)", "field3(0,1) field8 port9 cat17 cat20"},
		{"meta.o ++ meta.w", "meta1(2,0) meta127(3,0) cat128"}, {"1w1 ++ 2w1", "const1=1 const2=1 cat3"},
		{"h.f + 255", "field8 const8=255 add8"}, {"255 + h.f", "const8=255 field8 add8"}, {"h.f - 0", "field8 const8 sub8"}, {"0 - h.f", "const8 field8 sub8"},
		{"h.f & h.f", "field8 field8 and8"}, {"8w3 ^ h.f", "const8=3 field8 xor8"}, {"h.f | 8w3", "field8 const8=3 or8"},
		{"port + port - 3", "port9 port9 add9 const9=3 sub9"}, {"3 - (port + 2)", "const9=3 port9 const9=2 add9 sub9"},
		{"h.f & h.g ++ meta.m[3:0] ++ meta.o", "field8 field3(0,1) meta4 slice4(3,0) cat7 meta1(2,0) cat8 and8"},
	})
	wantPreds(t, []row{
		{"h.f == h.f", "field8 field8 eq1"}, {"h.f < 3", "field8 const8=3 lt1"}, {"3 <= h.f", "const8=3 field8 le1"},
		{"h.f != 3", "field8 const8=3 eq1 not1"}, {"3 != h.f", "const8=3 field8 eq1 not1"},
		{"h.f > 3", "field8 const8=3 le1 not1"}, {"3 > h.f", "const8=3 field8 le1 not1"}, {"h.f >= 3", "field8 const8=3 lt1 not1"}, {"3 >= h.f", "const8=3 field8 lt1 not1"},
		{"isValid(h) && isValid(i)", "valid1 valid1(1,0) and1"}, {"isValid(i) || isValid(h)", "valid1(1,0) valid1 or1"},
		{"!(isValid(i) || port < 2) && !!isValid(h)", "valid1(1,0) port9 const9=2 lt1 or1 not1 valid1 not1 not1 and1"},
		{"isValid(h) && isValid(i) && isValid(h)", "valid1 valid1(1,0) and1 valid1 and1"}, {"isValid(h) || (isValid(i) || isValid(h))", "valid1 valid1(1,0) valid1 or1 or1"},
		{"h.f + 1 == 2 - h.f", "field8 const8=1 add8 const8=2 field8 sub8 eq1"},
	})
}

// What is free has the other one's width, with all signs ahead of it.
func TestP10_1CodesOfFreeOnes(t *testing.T) {
	wantKeys(t, []row{
		{"~-7 & h.g", "const3=7 neg3 not3 field3(0,1) and3"}, {"h.g & ~-7", "field3(0,1) const3=7 neg3 not3 and3"},
		{"1 + (2 + h.g)", "const3=1 const3=2 field3(0,1) add3 add3"}, {"(2 + h.g) + 1", "const3=2 field3(0,1) add3 const3=1 add3"},
		{"~(2 + h.g)", "const3=2 field3(0,1) add3 not3"}, {"(-2 | meta.o ++ h.f)[8:8]", "const9=2 neg9 meta1(2,0) field8 cat9 or9 slice1(8,8)"},
		{"h.g ++ (meta.m + 15)", "field3(0,1) meta4 const4=15 add4 cat7"}, {"(~1 ^ port) << 3", "const9=1 not9 port9 xor9 shl9(3,0)"},
		{"170141183460469231731687303715884105727 | meta.w", "const127=170141183460469231731687303715884105727 meta127(3,0) or127"},
	})
	wantPreds(t, []row{
		{"~1 == meta.o", "const1=1 not1 meta1(2,0) eq1"}, {"port > --511", "port9 const9=511 neg9 neg9 le1 not1"},
		{"340282366920938463463374607431768211455 >= i.w", "const128=340282366920938463463374607431768211455 field128(1,1) lt1 not1"},
	})
	// Signs ahead of what has a width make nothing free.
	wantKeys(t, []row{{"~-8w7 & h.f", "const8=7 neg8 not8 field8 and8"}, {"~h.f & -8w7", "field8 not8 const8=7 neg8 and8"}, {"~h.f & -7", "field8 not8 const8=7 neg8 and8"}})
}

func TestP10_2PredErrors(t *testing.T) {
	p := typed(t)
	for _, x := range []struct {
		text string
		e    api.Errno
	}{
		{"h.z == 1", api.ErrNone}, {"j.f == 1", api.ErrNone}, {"meta.x == 1", api.ErrNone}, {"isValid(m)", api.ErrNone}, {"isValid(h) && j.f == 1", api.ErrNone},
		// Of no action there are no parameters.
		{"x == 1", api.ErrNone}, {"y == 1", api.ErrNone}, {"isValid(h) || x == y", api.ErrNone}, {"x", api.ErrNone},
		{"port", api.ErrKind}, {"5", api.ErrKind}, {"1w1", api.ErrKind}, {"meta.o", api.ErrKind}, {"~-5", api.ErrKind}, {"h.f + 1", api.ErrKind}, {"h.f[0:0]", api.ErrKind},
		{"!port", api.ErrKind}, {"isValid(h) && port", api.ErrKind}, {"isValid(h) == isValid(i)", api.ErrKind}, {"~isValid(h)", api.ErrKind},
		{"1 == 2", api.ErrWidth}, {"h.f == h.g", api.ErrWidth}, {"5[0:0] == 1", api.ErrWidth}, {"h.f + h.g", api.ErrWidth}, {"5 << 1", api.ErrWidth},
		{"port == 512", api.ErrOver}, {"h.f[8:8] == 1", api.ErrOver}, {"i.w ++ meta.o", api.ErrOver}, {"h.f + 256", api.ErrOver},
		{"port && 1 == 2", api.ErrWidth}, {"1 == 2 && port == 512", api.ErrWidth}, {"port == 512 && 1 == 2", api.ErrOver},
	} {
		if c, e := lower.Pred(p, expr(t, x.text)); c != nil || e != x.e {
			t.Errorf("Pred of %s is %s, %d, want %d", x.text, told(c), e, x.e)
		}
	}
	round := make([]api.Expr, 1)
	round[0] = api.Expr{Op: api.ExBang, Args: round}
	deep := sample.Valid("h")
	for range 16 {
		deep = sample.Of(api.ExBang, deep)
	}
	for i, e := range []api.Expr{
		{}, {Op: 27}, {Op: 255}, round[0], deep, sample.Of(api.ExEq, sample.Port()), sample.Of(api.ExEq, sample.Port(), sample.Lit(9, 512)), sample.Valid("if"), {Op: api.ExValid, Head: "h", Hi: 1},
		sample.Of(api.ExEq, sample.Port(), sample.Of(api.ExShl, sample.Port(), sample.Port())), sample.Of(api.ExBoth, sample.Valid("nobody"), api.Expr{}),
	} {
		if c, got := lower.Pred(p, e); c != nil || got != api.ErrArg {
			t.Errorf("Pred %d is %s, %d", i, told(c), got)
		}
	}
}

// The deepest expression has a code of a node for each sign.
func TestP10_2PredGreatOnes(t *testing.T) {
	p := typed(t)
	deep, wide, nodes := sample.Valid("h"), sample.Valid("i"), 1
	for depth := 2; depth <= 16; depth++ {
		deep, wide, nodes = sample.Of(api.ExBang, deep), sample.Of(api.ExBoth, wide, wide), 2*nodes+1
		if c, e := lower.Pred(p, deep); e != api.OK || told(c) != "valid1"+strings.Repeat(" not1", depth-1) {
			t.Errorf("Pred of %s is %s, %d", print.Expr(deep), told(c), e)
		}
		c, e := lower.Pred(p, wide)
		if w, is := lower.Width(lowered(t, p), -1, c); e != api.OK || len(c) != nodes || w != 1 || !is {
			t.Errorf("of the depth %d Pred has %d nodes, %d, and the width %d", depth, len(c), e, w)
		}
	}
}

// Pred asks of a program only what the names mean, also where the program may not be, or goes round.
func TestP10_2PredOfAnyProgram(t *testing.T) {
	if c, e := lower.Pred(api.Program{}, expr(t, "port == 1")); e != api.OK || told(c) != "port9 const9=1 eq1" {
		t.Errorf("of no program Pred is %s, %d", told(c), e)
	}
	p := typed(t)
	p.States[2].To = "s"
	if c, e := lower.Pred(p, expr(t, "i.f < 2")); e != api.OK || told(c) != "field16(1,0) const16=2 lt1" {
		t.Errorf("of one with a cycle Pred is %s, %d", told(c), e)
	}
	for _, w := range []int{0, -1, 129, math.MaxInt, math.MinInt} {
		p.Headers[0].Fields[0].W, p.Metas[0].W = w, w
		for _, s := range []string{"h.f == meta.m", "h.f == 0", "0 < ~h.f", "h.f ++ port == 0", "port ++ h.f == h.f", "h.f[0:0] == 0", "h.f ++ h.f == h.f << 127"} {
			c, e := lower.Pred(p, expr(t, s))
			if w, is := lower.Width(api.Prog{Heads: [][]int{{w}}, Metas: []int{w}}, -1, c); is || w != 0 {
				t.Errorf("of %s, %d, Width is %d", s, e, w)
			}
		}
	}
	// Names mean the first ones.
	p = typed(t)
	p.Headers = append(p.Headers, p.Headers[1])
	p.Metas = append([]api.Field{{Name: "o", W: 7}}, p.Metas...)
	if c, e := lower.Pred(p, expr(t, "i.f == 1 && meta.o == 1")); e != api.OK || told(c) != "field16(1,0) const16=1 eq1 meta7 const7=1 eq1 and1" {
		t.Errorf("of names that are there twice Pred is %s, %d", told(c), e)
	}
}

func TestP10_2PredIsNew(t *testing.T) {
	p, e := typed(t), expr(t, "!(port + 1 == 2) || isValid(h)")
	c, _ := lower.Pred(p, e)
	before := told(c)
	again, _ := lower.Pred(p, e)
	clear(again)
	if again, _ = lower.Pred(p, e); told(c) != before || told(again) != before {
		t.Errorf("Pred was %s, and is %s", before, told(again))
	}
	if !reflect.DeepEqual(p, typed(t)) || !reflect.DeepEqual(e, expr(t, "!(port + 1 == 2) || isValid(h)")) {
		t.Error("what was handed in is changed")
	}
}
