package parse_test

import (
	"math/rand"
	"strconv"
	"strings"
	"testing"

	"quillon/api"
	"quillon/ast"
	"quillon/num"
	"quillon/parse"
	"quillon/print"
)

func TestP6_2Examples(t *testing.T) {
	wantExpr(t, "a.b + 1 == port && !isValid(a)", of(api.ExBoth,
		of(api.ExEq, of(api.ExAdd, field("a", "b"), lit(0, 1)), port()),
		of(api.ExBang, valid("a"))))
	wantExprFault(t, "1 == 2 @== 3", api.ErrForm)
}

func TestP6_2Atoms(t *testing.T) {
	wantExpr(t, "0", lit(0, 0))
	wantExpr(t, "0x1F", lit(0, 31))
	wantExpr(t, "8w255", lit(8, 255))
	wantExpr(t, "8w0xff", lit(8, 255))
	wantExpr(t, "128w0", lit(128, 0))
	wantExpr(t, "340282366920938463463374607431768211455", api.Expr{Op: api.ExLit, Lit: api.Lit{N: num.Mask(128)}})
	wantExpr(t, "x", param("x"))
	wantExpr(t, "_1", param("_1"))
	wantExpr(t, "w8", param("w8"))
	wantExpr(t, "abcdefghijklmnop", param("abcdefghijklmnop"))
	wantExpr(t, "h.f", field("h", "f"))
	wantExpr(t, " h \t.\n f // f\n", field("h", "f"))
	wantExpr(t, "meta.m", meta("m"))
	wantExpr(t, "port", port())
	wantExpr(t, "isValid(h)", valid("h"))
	wantExpr(t, "isValid ( h )", valid("h"))
	wantExpr(t, "(x)", param("x"))
	wantExpr(t, "(((h.f)))", field("h", "f"))
}

func TestP6_2Unary(t *testing.T) {
	wantExpr(t, "~x", of(api.ExNot, param("x")))
	wantExpr(t, "-x", of(api.ExNeg, param("x")))
	wantExpr(t, "!x", of(api.ExBang, param("x")))
	wantExpr(t, "-~!x", of(api.ExNeg, of(api.ExNot, of(api.ExBang, param("x")))))
	wantExpr(t, "--x", of(api.ExNeg, of(api.ExNeg, param("x"))))
	wantExpr(t, "x - -y", of(api.ExSub, param("x"), of(api.ExNeg, param("y"))))
	wantExpr(t, "-x - y", of(api.ExSub, of(api.ExNeg, param("x")), param("y")))
	wantExpr(t, "-(x - y)", of(api.ExNeg, of(api.ExSub, param("x"), param("y"))))
	wantExpr(t, "-x ++ y", of(api.ExCat, of(api.ExNeg, param("x")), param("y")))
	wantExpr(t, "~x[3:0]", of(api.ExNot, slice(param("x"), 3, 0)))
	wantExpr(t, "(~x)[3:0]", slice(of(api.ExNot, param("x")), 3, 0))
}

func TestP6_2Slices(t *testing.T) {
	wantExpr(t, "h.f[7:0]", slice(field("h", "f"), 7, 0))
	wantExpr(t, "x[127:127]", slice(param("x"), 127, 127))
	wantExpr(t, "x[0:0]", slice(param("x"), 0, 0))
	wantExpr(t, "x[0x7f:0x1]", slice(param("x"), 127, 1))
	wantExpr(t, "x[9:3][2:1][0:0]", slice(slice(slice(param("x"), 9, 3), 2, 1), 0, 0))
	wantExpr(t, "8w7[2:1]", slice(lit(8, 7), 2, 1))
	wantExpr(t, "isValid(h)[0:0]", slice(valid("h"), 0, 0))
	wantExpr(t, "x ++ y[1:0]", of(api.ExCat, param("x"), slice(param("y"), 1, 0)))
	for hi := range 130 {
		for lo := range 130 {
			a, b := strconv.Itoa(hi), strconv.Itoa(lo)
			switch {
			case hi > 127:
				wantExprFault(t, "x[@"+a+":"+b+"]", api.ErrOver)
			case lo > 127:
				wantExprFault(t, "x["+a+":@"+b+"]", api.ErrOver)
			case lo > hi:
				wantExprFault(t, "x["+a+":@"+b+"]", api.ErrArg)
			default:
				wantExpr(t, "x["+a+":"+b+"]", slice(param("x"), hi, lo))
			}
		}
	}
}

// levels are how the grammar nests signs, those that bind least first; all of a level bind alike.
var levels = [][]string{{"||"}, {"&&"}, {"==", "!=", "<", "<=", ">", ">="}, {"|"}, {"^"}, {"&"}, {"<<", ">>"}, {"+", "-"}, {"++"}}

const (
	compareLevel = 2
	shiftLevel   = 6
	unaryLevel   = 9
	sliceLevel   = 10
	atomLevel    = 11
)

var signOps = map[string]uint8{
	"||": api.ExAny, "&&": api.ExBoth, "==": api.ExEq, "!=": api.ExNe, "<": api.ExLt, "<=": api.ExLe, ">": api.ExGt, ">=": api.ExGe,
	"|": api.ExOr, "^": api.ExXor, "&": api.ExAnd, "<<": api.ExShl, ">>": api.ExShr, "+": api.ExAdd, "-": api.ExSub, "++": api.ExCat,
}

// eachTwo goes through all signs, each beside each.
func eachTwo(do func(one, two string, levelOne, levelTwo int)) {
	for i, l := range levels {
		for j, m := range levels {
			for _, one := range l {
				for _, two := range m {
					do(one, two, i, j)
				}
			}
		}
	}
}

// operand is what stands behind a sign of a level: a name, but behind a shift a number.
func operand(level int, name string) (string, api.Expr) {
	if level == shiftLevel {
		return "3", lit(0, 3)
	}
	return name, param(name)
}

func TestP6_2TwoSigns(t *testing.T) {
	eachTwo(func(one, two string, i, j int) {
		y, yTree := operand(i, "y")
		z, zTree := operand(j, "z")
		a, b := signOps[one], signOps[two]
		s := "x " + one + " " + y + " " + two + " " + z
		switch {
		case i == compareLevel && j == compareLevel, i == shiftLevel && j > shiftLevel:
			wantExprFault(t, "x "+one+" "+y+" @"+two+" "+z, api.ErrForm)
		case j > i:
			wantExpr(t, s, of(a, param("x"), of(b, yTree, zTree)))
		default:
			wantExpr(t, s, of(b, of(a, param("x"), yTree), zTree))
		}
		if j != shiftLevel {
			wantExpr(t, "(x "+one+" "+y+") "+two+" z", of(b, of(a, param("x"), yTree), param("z")))
		}
		if i != shiftLevel {
			wantExpr(t, "x"+one+"(y"+two+z+")", of(a, param("x"), of(b, param("y"), zTree)))
		}
	})
}

func levelOf(e api.Expr) int {
	switch {
	case len(e.Args) == 0:
		return atomLevel
	case e.Op == api.ExSlice:
		return sliceLevel
	case len(e.Args) == 1:
		return unaryLevel
	}
	for i, l := range levels {
		for _, s := range l {
			if signOps[s] == e.Op {
				return i
			}
		}
	}
	return -1
}

func signOf(e api.Expr) string {
	for s, op := range signOps {
		if op == e.Op {
			return s
		}
	}
	return map[uint8]string{api.ExNot: "~", api.ExNeg: "-", api.ExBang: "!"}[e.Op]
}

// loose is an expression's text with no bracket that it may lack where a level stands.
func loose(e api.Expr, at int) string {
	level := levelOf(e)
	var s string
	switch level {
	case atomLevel:
		s = print.Expr(e)
	case sliceLevel:
		s = loose(e.Args[0], sliceLevel) + "[" + strconv.Itoa(e.Hi) + ":" + strconv.Itoa(e.Lo) + "]"
	case unaryLevel:
		s = signOf(e) + loose(e.Args[0], unaryLevel)
	case compareLevel:
		s = loose(e.Args[0], level+1) + signOf(e) + loose(e.Args[1], level+1)
	default:
		s = loose(e.Args[0], level) + signOf(e) + loose(e.Args[1], level+1)
	}
	if level < at {
		return "(" + s + ")"
	}
	return s
}

func TestP6_2LeastBrackets(t *testing.T) {
	m := maker{rand.New(rand.NewSource(62))}
	for range 20000 {
		e := m.expr(1 + m.Intn(6))
		wantExpr(t, loose(e, 0), e)
	}
}

func TestP6_2Form(t *testing.T) {
	for _, s := range []string{
		"@", "  // x\n @", "@)", "@;", "(@)", "(x@", "(x@]", "x@)", "x @y", "x @1", "1 @x", "x@;", "x @port", "f@(x)",
		"@+ x", "x +@", "x + @* y", "x @= y", "x @-> y", "x @&&& y", "1 @&&& y", "x ++ @+ y", "x @~ y", "x @!", "x @/ y", "x @, y",
		"~@", "-@)", "!@[1:0]", "@[1:0]", "x[@]", "x[@:0]", "x[1@]", "x[1 @0]", "x[1:@]", "x[1:0@", "x[1:0@:0]", "x[1:0@)", "x[@y:0]", "x[1:@y]", "x[@-1:0]", "x[@(1):0]",
		"h.@", "h.@1", "h.@port", "h.@if", "h.f@.g", "@.f", "1@.f", "port@.f", "h.@(f)", "(h)@.f", "isValid(h)@.f",
		"meta@", "meta @x", "meta@[1:0]", "meta.@meta", "meta.@_", "meta.m@.n", "isValid@", "isValid @h", "isValid(@", "isValid(@)", "isValid(h@.f)", "isValid(@1)", "isValid(@port)", "isValid(@(h))", "isValid(h@", "isvalid@(x)",
		"port@(", "@_", "@if", "@accept", "x @else", "@header", "@emit",
		"x << @", "x << @y", "x << @(1)", "x << @-1", "x << 1 @+ y", "x << 1 @++ y", "x << 1 @[0:0]", "x >> @port", "x < @< y",
		"1 == 2 @!= 3", "(1 == 2) == 3 @== 4", "1 < 2 @> 3", "1 <= 2 && 3 >= 4 @< 5", "a == b | c @== d", "a | b == c @< d",
	} {
		wantExprFault(t, s, api.ErrForm)
	}
}

func TestP6_2Numbers(t *testing.T) {
	wantExpr(t, "x << 0 >> 127", of(api.ExShr, of(api.ExShl, param("x"), lit(0, 0)), lit(0, 127)))
	wantExpr(t, "x << 0x10", of(api.ExShl, param("x"), lit(0, 16)))
	for _, sign := range []string{"<<", ">>"} {
		wantExprFault(t, "x "+sign+" @128", api.ErrOver)
		wantExprFault(t, "x "+sign+" @18446744073709551616", api.ErrOver)
		wantExprFault(t, "x "+sign+" @340282366920938463463374607431768211455", api.ErrOver)
		wantExprFault(t, "x "+sign+" @8w1", api.ErrWidth)
		wantExprFault(t, "x "+sign+" @8w200", api.ErrWidth)
		wantExprFault(t, "x "+sign+" @128 )", api.ErrOver)
	}
	wantExprFault(t, "x[@128:0]", api.ErrOver)
	wantExprFault(t, "x[@18446744073709551616:0]", api.ErrOver)
	wantExprFault(t, "x[3:@18446744073709551617]", api.ErrOver)
	wantExprFault(t, "x[@8w1:0]", api.ErrWidth)
	wantExprFault(t, "x[@8w200:0]", api.ErrWidth)
	wantExprFault(t, "x[1:@8w0]", api.ErrWidth)
	wantExprFault(t, "x[1:@8w200]", api.ErrWidth)
	wantExprFault(t, "x[1:@1w1]", api.ErrWidth)
	wantExprFault(t, "x[0:@128]", api.ErrOver)
	wantExprFault(t, "x[0:@1", api.ErrArg)
	wantExprFault(t, "x[5:@6] +", api.ErrArg)
}

// What layer 3 tells goes ahead of all, wherever it stands.
func TestP6_2Lex(t *testing.T) {
	wantExprFault(t, ") @$", api.ErrForm)
	wantExprFault(t, "x[128:0] @12x", api.ErrForm)
	wantExprFault(t, "1 == 2 == @4w16", api.ErrOver)
	wantExprFault(t, "x ( @0w1", api.ErrWidth)
	wantExprFault(t, ")\n @abcdefghijklmnopq", api.ErrLong)
	wantExprFault(t, "@)"+strings.Repeat(" ", api.MaxText), api.ErrLong)
	wantExpr(t, "x"+strings.Repeat(" ", api.MaxText-1), param("x"))
}

// chained are texts of so many signs, whose depth is one more; the @ stands at the sign that is found too deep if it is one too many.
func chained() map[string]func(n int) string {
	left := func(sign, operand string) func(n int) string {
		return func(n int) string { return "x" + strings.Repeat(sign+operand, n-1) + "@" + sign + operand }
	}
	right := func(ahead, behind string) func(n int) string {
		return func(n int) string {
			return "@" + strings.Repeat(ahead, n) + "x" + strings.Repeat(behind, n)
		}
	}
	l := map[string]func(n int) string{
		"~": right("~", ""), "-": right("-", ""), "!": right("!", ""), "~ (": right("~(", ")"),
		"slice":       left("[0:0]", ""),
		"slice in ()": func(n int) string { return strings.Repeat("(", n-1) + "x" + strings.Repeat("[0:0])", n-1) + "@[0:0]" },
		"right +": func(n int) string {
			return "x @+ (" + strings.Repeat("x + (", n-1) + "x" + strings.Repeat(")", n)
		},
		"right ==": func(n int) string {
			return "x @== (" + strings.Repeat("x == (", n-1) + "x" + strings.Repeat(")", n)
		},
	}
	for i, row := range levels {
		for _, s := range row {
			switch i {
			case compareLevel:
				l[s] = func(n int) string { return strings.Repeat("(", n) + "x" + strings.Repeat(s+"x)", n-1) + "@" + s + "x)" }
			case shiftLevel:
				l[s] = left(s, "3")
			default:
				l[s] = left(s, "x")
			}
		}
	}
	return l
}

func TestP6_2Deep(t *testing.T) {
	for what, text := range chained() {
		for n := 1; n < api.MaxDepth; n++ {
			s, _ := marked(t, text(n))
			if e, f := parse.Expr(s); f != (api.Fault{}) || ast.Depth(e) != n+1 {
				t.Errorf("%s: Expr(%q) has the depth %d, %v", what, s, ast.Depth(e), f)
			}
		}
		wantExprFault(t, text(api.MaxDepth), api.ErrDeep)
	}
}

// times is a text so many times.
func times(n int, s string) string { return strings.Repeat(s, n) }

// A sign that is too deep is found once its expression is read: behind what is wrong in that, ahead of what is wrong behind it.
func TestP6_2DeepOrder(t *testing.T) {
	deep := "x" + times(15, " + x")
	wantExprFault(t, deep+" @+ 1 )", api.ErrDeep)
	wantExprFault(t, deep+" + (1 @]", api.ErrForm)
	wantExprFault(t, deep+" + 1[3:@4]", api.ErrArg)
	wantExprFault(t, deep+" + 1[3:0 @)", api.ErrForm)
	wantExprFault(t, deep+" @+ 1[3:0] )", api.ErrDeep)
	wantExprFault(t, deep+" @+ y ++ z == 1 == 2", api.ErrDeep)
	wantExprFault(t, deep+" + @)", api.ErrForm)
	wantExprFault(t, deep+" +@", api.ErrForm)
	wantExprFault(t, deep+" @| 1 == 2 == 3", api.ErrDeep)
	wantExprFault(t, deep+" @<< 127 200", api.ErrDeep)
	wantExprFault(t, deep+" << @128", api.ErrOver)
	wantExprFault(t, "("+deep+")@[1:0] )", api.ErrDeep)
	wantExprFault(t, "("+deep+")[1:@2]", api.ErrArg)
	wantExprFault(t, "("+deep+")[1:0@", api.ErrForm)
	wantExprFault(t, "("+deep+")[@8w1:0]", api.ErrWidth)
	wantExprFault(t, "@-("+deep+") )", api.ErrDeep)
	wantExprFault(t, "-("+deep+" @]", api.ErrForm)
	wantExprFault(t, "-("+deep+")@[1:0]", api.ErrDeep)
	wantExprFault(t, "x @+ ("+deep+") 1", api.ErrDeep)
	wantExprFault(t, "x @== ("+deep+") && ("+deep+")", api.ErrDeep)
	wantExprFault(t, "x + y ++ z @+ ("+deep+")", api.ErrDeep)
	wantExprFault(t, "~@~"+times(15, "-")+"x", api.ErrDeep)
	wantExprFault(t, times(7, "~")+"@"+times(16, "-")+"x )", api.ErrDeep)
	wantExprFault(t, times(20, "~")+"@)", api.ErrForm)
	// Both sides may be of the greatest depth but one; brackets do not count.
	wantExpr(t, "("+times(14, "~")+"x) + ((("+times(14, "!")+"y)))", of(api.ExAdd, nested(14, api.ExNot, "x"), nested(14, api.ExBang, "y")))
}

// nested is a name in so many signs.
func nested(n int, op uint8, name string) api.Expr {
	e := param(name)
	for range n {
		e = of(op, e)
	}
	return e
}

// A bracket or a sign may be in 48 of both, and in no more.
func TestP6_2Open(t *testing.T) {
	wantExpr(t, times(48, "(")+"x"+times(48, ")"), param("x"))
	wantExpr(t, times(49, "(")+"x"+times(49, ")"), param("x"))
	wantExprFault(t, times(49, "(")+"@(x"+times(50, ")"), api.ErrDeep)
	wantExprFault(t, times(49, "(")+"@(", api.ErrDeep)
	wantExprFault(t, times(49, "(")+"@"+times(1000, "("), api.ErrDeep)
	wantExprFault(t, times(49, "(")+"@~x", api.ErrDeep)
	wantExprFault(t, times(49, "(")+"x @~", api.ErrForm)
	wantExprFault(t, times(49, "-")+"@-x", api.ErrDeep)
	wantExprFault(t, times(49, "!")+"@"+times(60000, "!"), api.ErrDeep)
	wantExprFault(t, times(49, "~")+"@(x)", api.ErrDeep)
	wantExprFault(t, times(24, "~(")+"~@(x", api.ErrDeep)
	wantExprFault(t, times(24, "-(")+"(@-x", api.ErrDeep)
	wantExprFault(t, times(49, "(")+"@", api.ErrForm)
	wantExprFault(t, times(49, "(")+"@)", api.ErrForm)
	wantExpr(t, times(34, "(")+times(15, "~")+"x"+times(34, ")"), nested(15, api.ExNot, "x"))
	wantExprFault(t, times(34, "(")+times(15, "~")+"@(x)"+times(34, ")"), api.ErrDeep)
	// What is closed does not count, nor do the brackets of isValid.
	ahead, behind := times(48, "("), times(48, ")")
	wantExpr(t, ahead+"(x) + (y)"+behind, of(api.ExAdd, param("x"), param("y")))
	wantExpr(t, ahead+"-x + -y"+behind, of(api.ExAdd, nested(1, api.ExNeg, "x"), nested(1, api.ExNeg, "y")))
	wantExpr(t, ahead+"x"+behind+" - "+ahead+"y"+behind, of(api.ExSub, param("x"), param("y")))
	wantExpr(t, "("+ahead+"isValid(h)"+behind+")", valid("h"))
}
