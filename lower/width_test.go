package lower_test

import (
	"math"
	"math/rand"
	"slices"
	"testing"

	"quillon/api"
	"quillon/lower"
	"quillon/num"
	"quillon/sample"
)

// wantWidth wants 0 of a code that has no width.
func wantWidth(t *testing.T, p api.Prog, act int, c api.Code, want int) {
	t.Helper()
	if w, is := lower.Width(p, act, c); w != want || is != (want > 0) {
		t.Errorf("in %d Width of %.300s is %d, %v, want %d", act, told(c), w, is, want)
	}
}

// wantWidths wants a width of texts of codes, of no action, in Typed.
func wantWidths(t *testing.T, want int, texts ...string) {
	t.Helper()
	p := lowered(t, typed(t))
	for _, s := range texts {
		wantWidth(t, p, -1, code(t, s), want)
	}
}

func TestP10_3WidthOfLeaves(t *testing.T) {
	wantWidths(t, 8, "const8", "const8=255", "field8")
	wantWidths(t, 1, "const1=1", "meta1(2)", "valid1", "valid1(1)")
	wantWidths(t, 128, "const128=340282366920938463463374607431768211455", "field128(1,1)")
	wantWidths(t, 3, "field3(0,1)")
	wantWidths(t, 9, "port9", "meta9(1)")
	wantWidths(t, 0, "", "const0", "const-1", "const129", "const129=1", "const8=256", "const1=2", "const127=340282366920938463463374607431768211455",
		"field9", "field7", "field3", "field8(0,1)", "field8(1)", "field8(2)", "field8(-1)", "field8(0,3)", "field8(0,-1)", "field0(0,3)", "field0(2)",
		"meta9", "meta4(1)", "meta4(5)", "meta4(-1)", "meta0(5)", "port8", "port10", "port1", "valid2", "valid9", "valid1(2)", "valid1(-1)", "valid0", "param9", "param8(1)", "param1", "param0")
	// What is not said of a kind is nought.
	wantWidths(t, 0, "const8(1)=5", "const8(0,1)=5", "const8(-1)", "field8=1", "meta4(0,1)", "meta4=1", "port9(1)", "port9(0,1)", "port9=1", "valid1(0,1)", "valid1=1")
	wantWidths(t, 0, "none9", "none1")
	for _, n := range []api.Node{{}, {Op: 21, W: 9}, {Op: 255, W: 9}, {W: 9}, {Op: api.OpConst}, {Op: api.OpPort}, {Op: api.OpConst, W: math.MaxInt}, {Op: api.OpConst, W: math.MinInt}, {Op: api.OpField, W: 8, A: math.MinInt, B: math.MaxInt}} {
		wantWidth(t, lowered(t, typed(t)), -1, api.Code{n}, 0)
	}
}

func TestP10_3WidthInActions(t *testing.T) {
	p := lowered(t, typed(t))
	for _, x := range []struct {
		act  int
		text string
		want int
	}{
		{0, "param9", 9}, {0, "param8(1)", 8}, {0, "param9(1)", 0}, {0, "param8", 0}, {0, "param9(2)", 0}, {0, "param9(-1)", 0}, {0, "param9(0,1)", 0}, {0, "param9=1", 0}, {0, "param1", 0}, {0, "param0(2)", 0},
		{1, "param1", 1}, {1, "param9", 0}, {1, "param8(1)", 0}, {2, "param9", 0}, {2, "param1", 0}, {2, "param0", 0}, {-1, "param9", 0}, {-1, "param1", 0},
		{0, "param9 field8 cat17", 17}, {1, "param9 field8 cat17", 0}, {0, "port9", 9}, {2, "port9", 9},
	} {
		wantWidth(t, p, x.act, code(t, x.text), x.want)
	}
	// Of actions that there are not, as of none.
	for _, act := range []int{3, -2, 4, 1 << 20, math.MaxInt, math.MinInt} {
		wantWidth(t, p, act, code(t, "param9"), 0)
		wantWidth(t, p, act, code(t, "param1"), 0)
		wantWidth(t, p, act, code(t, "port9 const9=1 add9"), 9)
	}
}

func TestP10_3WidthOfNodes(t *testing.T) {
	wantWidths(t, 8, "field8 not8", "field8 neg8", "const8=5 not8 neg8", "field8 shl8", "field8 shl8(127)", "field8 shr8", "field8 shr8(127)", "field8 slice8(7)", "field16(1) slice8(15,8)",
		"field8 field8 add8", "field8 field8 sub8", "field8 field8 and8", "field8 field8 xor8", "field8 field8 or8", "field3(0,1) field5(0,2) cat8", "valid1 const7 cat8",
		"field8 field8 field8 add8 add8", "field8 field8 add8 field8 add8", "field8 const8=3 not8 add8 neg8")
	wantWidths(t, 1, "field8 slice1", "field8 slice1(7,7)", "field8 field8 eq1", "field8 field8 lt1", "field8 field8 le1", "valid1 valid1 eq1", "valid1 not1", "valid1 valid1 and1", "valid1 meta1(2) or1", "field128(1,1) slice1(127,127)", "field128(1,1) field128(1,1) le1", "port9 port9 eq1 not1")
	wantWidths(t, 128, "field128(1,1) slice128(127)", "meta127(3) meta1(2) cat128", "meta1(2) meta127(3) cat128", "field128(1,1) shl128(127)")
	wantWidths(t, 0,
		// Too few, or too many, are there to be taken, or left.
		"not8", "field8 add8", "add8", "field8 field8 not8", "field8 field8", "field8 field8 field8 add8", "field8 not8 add8", "slice1", "cat8", "eq1", "shl8", "field8 eq1", "field8 field8 add8 add8", "field8 add8 field8",
		// Of another width.
		"field8 not7", "field8 not9", "field8 neg9", "field8 shl9", "field8 shr7(1)", "field8 field8 add9", "field8 field8 sub1", "field8 field3(0,1) add8", "field3(0,1) field8 add8", "field3(0,1) field8 and3", "field8 field3(0,1) xor3", "field8 field3(0,1) or11",
		"field8 field3(0,1) eq1", "field8 field8 eq8", "field8 field8 lt0", "field8 field8 le2", "valid1 valid1 and2", "valid1 field8 and1",
		"field8 field3(0,1) cat8", "field8 field3(0,1) cat10", "field8 field3(0,1) cat12", "field128(1,1) meta1(2) cat129", "field128(1,1) meta1(2) cat1", "meta127(3) meta2(4) cat129", "field128(1,1) field128(1,1) cat256",
		// Bits that are not there.
		"field8 slice9(8)", "field8 slice1(8,8)", "field8 slice8(8,1)", "field8 slice8(7,1)", "field8 slice7(7)", "field8 slice9(7)", "field8 slice3(3,4)", "field8 slice0(3,4)", "field8 slice2(0,-1)", "field8 slice1(-1,-1)", "field8 slice-1(3,5)", "field128(1,1) slice129(128)", "field128(1,1) slice1(128,128)",
		"field8 shl8(-1)", "field8 shl8(128)", "field8 shr8(-1)", "field8 shr8(128)",
		// What is not said of a kind.
		"field8 not8(1)", "field8 not8(0,1)", "field8 not8=1", "field8 neg8(1)", "field8 neg8(0,1)", "field8 neg8=1", "field8 slice8(7)=1", "field8 shl8(1,1)", "field8 shl8(0,1)", "field8 shr8(1,1)", "field8 shl8=1", "field8 shr8=1",
		"field8 field8 add8(1)", "field8 field8 add8(0,1)", "field8 field8 sub8=1", "field8 field8 and8(1)", "field8 field8 xor8(0,1)", "field8 field8 or8=1", "field8 field8 eq1(1)", "field8 field8 lt1(0,1)", "field8 field8 le1=1", "field8 field3(0,1) cat11(1)", "field8 field3(0,1) cat11(0,1)", "field8 field3(0,1) cat11=1",
		// Something else is wrong within.
		"const8=256 not8", "port8 not8", "field8(2) field8 add8", "param9 not9", "field8 none8", "field8 field8 none8", "const8=256 slice1", "const8=256 field8 eq1")
	for _, n := range []api.Node{{Op: api.OpSlice, W: 1, A: math.MaxInt, B: math.MaxInt}, {Op: api.OpSlice, W: math.MinInt, A: math.MaxInt}, {Op: api.OpSlice, W: 1, A: math.MinInt, B: math.MinInt}, {Op: api.OpShl, W: 8, A: math.MaxInt}, {Op: 21, W: 8}} {
		wantWidth(t, lowered(t, typed(t)), -1, api.Code{{Op: api.OpField, W: 8}, n}, 0)
	}
}

// As many nodes as may be, and one more.
func TestP10_3WidthOfGreatOnes(t *testing.T) {
	p := lowered(t, typed(t))
	for _, node := range []api.Node{{Op: api.OpNot, W: 9}, {Op: api.OpShl, W: 9, A: 1}} {
		c := slices.Repeat(api.Code{node}, api.MaxCode)
		c[0] = api.Node{Op: api.OpPort, W: 9}
		wantWidth(t, p, -1, c, 9)
		wantWidth(t, p, -1, append(c, node), 0)
	}
	// As many values as can be taken again wait at once.
	half := api.MaxCode / 2
	deep := append(slices.Repeat(code(t, "port9"), half), slices.Repeat(code(t, "add9"), half-1)...)
	wantWidth(t, p, -1, deep, 9)
	wantWidth(t, p, -1, append(slices.Clone(deep), code(t, "add9")...), 0)
	wantWidth(t, p, -1, append(slices.Clone(deep), code(t, "not9")...), 9)
	wantWidth(t, p, -1, append(slices.Clone(deep), code(t, "not9 not9")...), 0)
	wantWidth(t, p, -1, deep[1:], 0)
}

// A reader reckons in another way: it reads a code from its end on, what a node takes behind it.
type reader struct {
	p    api.Prog
	act  int
	left api.Code
}

// one is a value's width; 0, if there is none.
func (r *reader) one() int {
	if len(r.left) == 0 {
		return 0
	}
	n := r.left[len(r.left)-1]
	r.left = r.left[:len(r.left)-1]
	var a, b int
	switch {
	case n.Op >= api.OpNot && n.Op <= api.OpSlice || n.Op == api.OpShl || n.Op == api.OpShr:
		a = r.one()
	case n.Op >= api.OpCat && n.Op <= api.OpLe:
		b = r.one()
		a = r.one()
	}
	// Where what it takes has no width, or is not there, it has none.
	want := r.right(n, a, b)
	want.Op = n.Op
	if n != want || n.W < 1 || n.W > 128 {
		return 0
	}
	return n.W
}

// right is a node of n's kind that may be behind what has the widths a and b; of no width, if there is none.
func (r *reader) right(n api.Node, a, b int) api.Node {
	switch n.Op {
	case api.OpConst:
		return api.Node{W: n.W, V: num.Cut(n.V, n.W)}
	case api.OpField:
		for h, l := range r.p.Heads {
			for f, w := range l {
				if h == n.A && f == n.B {
					return api.Node{W: w, A: h, B: f}
				}
			}
		}
	case api.OpMeta:
		return numberedNode(r.p.Metas, n.A)
	case api.OpParam:
		for act, x := range r.p.Acts {
			if act == r.act {
				return numberedNode(x.Params, n.A)
			}
		}
	case api.OpPort:
		return api.Node{W: 9}
	case api.OpValid:
		return numberedNode(slices.Repeat([]int{1}, len(r.p.Heads)), n.A)
	case api.OpNot, api.OpNeg:
		return api.Node{W: a}
	case api.OpSlice:
		for lo := range a {
			if lo == n.B && n.A < a {
				return api.Node{W: n.A - lo + 1, A: n.A, B: lo}
			}
		}
	case api.OpShl, api.OpShr:
		return api.Node{W: a, A: min(max(n.A, 0), 127)}
	case api.OpCat:
		return api.Node{W: a*min(b, 1) + b*min(a, 1)}
	case api.OpEq, api.OpLt, api.OpLe:
		if a == b {
			return api.Node{W: min(a, 1)}
		}
	case api.OpAdd, api.OpSub, api.OpAnd, api.OpXor, api.OpOr:
		if a == b {
			return api.Node{W: a}
		}
	}
	return api.Node{}
}

func numberedNode(widths []int, a int) api.Node {
	for i, w := range widths {
		if i == a {
			return api.Node{W: w, A: i}
		}
	}
	return api.Node{}
}

func reckonedWidth(p api.Prog, act int, c api.Code) int {
	r := &reader{p, act, c}
	w := r.one()
	if len(r.left) > 0 || len(c) > 1<<16 {
		return 0
	}
	return w
}

// Each node behind each two values.
func TestP10_3WidthOfEachOfEach(t *testing.T) {
	p := lowered(t, typed(t))
	told := map[int]int{}
	values := []string{"", "const1=1", "valid1(1)", "field3(0,1)", "field8", "port9", "meta127(3)", "field128(1,1)", "port8"}
	for op := range uint8(23) {
		for _, first := range values {
			for _, second := range values {
				for _, w := range []int{-1, 0, 1, 2, 3, 4, 8, 9, 10, 11, 12, 16, 127, 128, 129} {
					for _, a := range []int{-1, 0, 1, 7, 8, 9, 126, 127, 128} {
						n := api.Node{Op: op, W: w, A: a}
						if op == api.OpSlice {
							n.B = max(a-w+1, -1)
						}
						c := append(code(t, first+" "+second), n)
						want := reckonedWidth(p, 0, c)
						wantWidth(t, p, 0, c, want)
						told[want]++
					}
				}
			}
		}
	}
	if len(told) < 10 || told[8] < 50 {
		t.Errorf("told are %v", told)
	}
}

// Codes of expressions made at random, always the same ones, and others made of these.
func TestP10_3WidthOfAnyCodes(t *testing.T) {
	r := rand.New(rand.NewSource(10))
	p := lowered(t, typed(t))
	told := map[int]int{}
	for range 4000 {
		act := r.Intn(4) - 1
		c := anyCode(t, r, act)
		wantWidth(t, p, act, c, 1)
		for range 5 {
			d := otherCode(r, c)
			want := reckonedWidth(p, act, d)
			wantWidth(t, p, act, d, want)
			told[min(want, 2)]++
		}
	}
	if told[0] < 5000 || told[1] < 2000 || told[2] < 20 {
		t.Errorf("told are %v", told)
	}
}

// anyCode is that of a condition in an action of Typed, or (-1) in its control.
func anyCode(t *testing.T, r *rand.Rand, act int) api.Code {
	t.Helper()
	m := sample.Maker{Intn: r.Intn, Action: act}
	p, w := typed(t), 1+r.Intn(128)
	at := &p.Control
	if act >= 0 {
		at = &p.Actions[act].Body
	}
	*at = []api.Stmt{sample.If(sample.Of(api.ExEq, m.Own(w, r.Intn(4)), m.Bits(w, r.Intn(4))), nil, nil)}
	l := lowered(t, p)
	if act >= 0 {
		return l.Acts[act].Body[0].E
	}
	return l.Control[0].E
}

// otherCode is one that is made of another one by a change or two.
func otherCode(r *rand.Rand, c api.Code) api.Code {
	c = slices.Clone(c)
	for range 1 + r.Intn(2) {
		n := r.Intn(len(c))
		switch r.Intn(9) {
		case 0:
			c[n].Op = uint8(r.Intn(22))
		case 1:
			c[n].W += r.Intn(3) - 1
		case 2:
			c[n].A += r.Intn(3) - 1
		case 3:
			c[n].B += r.Intn(3) - 1
		case 4:
			c[n].V = num.Of(uint64(r.Intn(4)))
		case 5:
			// Of two it becomes another one of two.
			c[n].Op = api.OpAdd + c[n].Op%8
		case 6:
			c = c[:n+1]
		case 7:
			c = slices.Insert(c, n, c[r.Intn(len(c))])
		case 8:
			c = slices.Insert(c, n+1, api.Node{Op: api.OpNot, W: c[n].W})
		}
	}
	return c
}
