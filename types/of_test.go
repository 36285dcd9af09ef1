package types_test

import (
	"math"
	"reflect"
	"testing"

	"quillon/api"
	"quillon/num"
	"quillon/print"
	"quillon/sample"
	"quillon/types"
)

// A row is an expression's text, and what it is.
type row struct{ text, told string }

func wantRows(t *testing.T, action int, rows []row) {
	t.Helper()
	p := wholeTree(t)
	for _, x := range rows {
		want, e := told(t, x.told)
		wantOf(t, p, action, expr(t, x.text), want, e)
	}
}

func TestP8_1Examples(t *testing.T) {
	wantRows(t, -1, []row{{"port + 1", "9"}, {"1 == 2", "width"}, {"!port", "kind"}})
}

func TestP8_1OfNumbersAndNames(t *testing.T) {
	wantRows(t, -1, []row{
		{"5", "free"}, {"0", "free"}, {"340282366920938463463374607431768211455", "free"},
		{"8w5", "8"}, {"1w0", "1"}, {"128w5", "128"},
		{"h.f", "8"}, {"h.g", "3"}, {"h.x", "5"}, {"i.f", "16"}, {"i.w", "128"},
		{"h.w", "none"}, {"i.g", "none"}, {"j.f", "none"}, {"s.f", "none"}, {"h.m", "none"},
		{"meta.m", "4"}, {"meta.h", "9"}, {"meta.o", "1"}, {"meta.w", "127"}, {"meta.f", "2"},
		{"meta.i", "none"}, {"meta.x", "none"},
		{"x", "none"}, {"y", "none"}, {"h", "none"}, {"m", "none"},
		{"port", "9"},
		{"isValid(h)", "truth"}, {"isValid(i)", "truth"}, {"isValid(j)", "none"}, {"isValid(m)", "none"}, {"isValid(f)", "none"},
	})
	wantRows(t, 0, []row{{"x", "9"}, {"y", "8"}, {"z", "none"}, {"f", "none"}, {"h.f", "8"}, {"meta.m", "4"}, {"port", "9"}, {"isValid(h)", "truth"}})
	wantRows(t, 1, []row{{"x", "1"}, {"y", "none"}, {"i.f", "16"}, {"isValid(j)", "none"}})
	wantRows(t, 2, []row{{"x", "none"}, {"y", "none"}, {"h.g", "3"}})
	// Of actions that there are not, as of none.
	for _, action := range []int{-2, 3, 4, 1 << 20, math.MaxInt, math.MinInt} {
		wantRows(t, action, []row{{"x", "none"}, {"y", "none"}, {"h.f", "8"}, {"meta.w", "127"}, {"port + 1", "9"}, {"7", "free"}})
	}
}

func TestP8_1OfOne(t *testing.T) {
	wantRows(t, 0, []row{
		{"~h.f", "8"}, {"-i.w", "128"}, {"~8w5", "8"}, {"-x", "9"}, {"~-y", "8"},
		{"~5", "free"}, {"-5", "free"}, {"-~-5", "free"},
		{"~isValid(h)", "kind"}, {"-isValid(h)", "kind"}, {"~(port == 1)", "kind"}, {"-!isValid(i)", "kind"},
		{"!isValid(h)", "truth"}, {"!!isValid(h)", "truth"}, {"!(port == 1)", "truth"}, {"!(isValid(h) || port == 1)", "truth"},
		{"!5", "kind"}, {"!~5", "kind"}, {"!1w1", "kind"}, {"!meta.o", "kind"}, {"!(port + 1)", "kind"},
		{"h.f[7:0]", "8"}, {"h.f[7:7]", "1"}, {"h.f[0:0]", "1"}, {"h.f[6:2]", "5"}, {"h.f[8:0]", "over"}, {"h.f[8:8]", "over"}, {"h.f[127:127]", "over"},
		{"i.w[127:0]", "128"}, {"i.w[127:127]", "1"}, {"meta.w[127:0]", "over"}, {"meta.w[126:0]", "127"}, {"meta.o[0:0]", "1"}, {"meta.o[1:0]", "over"},
		{"(~h.f)[3:1]", "3"}, {"h.f[7:4][3:3]", "1"}, {"h.f[7:4][4:4]", "over"}, {"8w5[3:0]", "4"}, {"port[8:0]", "9"}, {"port[9:0]", "over"},
		{"5[0:0]", "width"}, {"(~5)[0:0]", "width"}, {"(-5)[127:127]", "width"}, {"isValid(h)[0:0]", "kind"}, {"isValid(h)[127:0]", "kind"}, {"(port == 1)[1:0]", "kind"},
		{"h.f << 0", "8"}, {"h.f << 127", "8"}, {"h.g >> 127", "3"}, {"8w5 >> 8", "8"}, {"(port << 1) >> 2", "9"}, {"meta.o << 2", "1"},
		{"5 << 1", "width"}, {"5 >> 1", "width"}, {"~5 << 1", "width"}, {"-5 >> 0", "width"}, {"isValid(h) << 1", "kind"}, {"isValid(h) >> 1", "kind"}, {"!isValid(h) << 0", "kind"},
	})
}

func TestP8_1OfTwo(t *testing.T) {
	wantRows(t, 0, []row{
		{"h.f ++ h.g", "11"}, {"h.g ++ h.f ++ x", "20"}, {"1w1 ++ 1w0", "2"}, {"i.w[126:0] ++ meta.o", "128"}, {"meta.o ++ meta.w", "128"},
		{"i.w ++ meta.o", "over"}, {"meta.f ++ meta.w", "over"}, {"i.w ++ i.w", "over"}, {"(meta.w ++ meta.o) ++ 1w1", "over"},
		{"5 ++ h.f", "width"}, {"h.f ++ 5", "width"}, {"5 ++ 5", "width"}, {"h.f ++ ~5", "width"}, {"isValid(h) ++ h.f", "kind"}, {"h.f ++ isValid(h)", "kind"},
		{"5 ++ isValid(h)", "width"}, {"isValid(h) ++ 5", "kind"}, {"i.w ++ 5", "width"}, {"i.w ++ isValid(h)", "kind"}, {"isValid(h) ++ isValid(h)", "kind"},
	})
	for _, sign := range []string{" + ", " - ", " & ", " ^ ", " | ", " == ", " != ", " < ", " <= ", " > ", " >= "} {
		bits := func(w string) string {
			if sign[1] == '=' || sign[1] == '!' || sign[1] == '<' || sign[1] == '>' {
				return "truth"
			}
			return w
		}
		wantRows(t, 0, []row{
			{"h.f" + sign + "h.f", bits("8")}, {"h.f" + sign + "y", bits("8")}, {"x" + sign + "port", bits("9")}, {"i.w" + sign + "128w1", bits("128")},
			{"h.f" + sign + "5", bits("8")}, {"5" + sign + "h.f", bits("8")}, {"h.f" + sign + "255", bits("8")}, {"255" + sign + "h.f", bits("8")},
			{"~255" + sign + "h.f", bits("8")}, {"h.f" + sign + "-~255", bits("8")}, {"meta.o" + sign + "0", bits("1")}, {"meta.o" + sign + "1", bits("1")},
			{"h.f" + sign + "256", "over"}, {"256" + sign + "h.f", "over"}, {"-256" + sign + "h.f", "over"}, {"h.f" + sign + "~-256", "over"},
			{"2" + sign + "meta.o", "over"}, {"port" + sign + "512", "over"},
			{"h.f" + sign + "h.g", "width"}, {"h.g" + sign + "h.f", "width"}, {"h.f" + sign + "9w1", "width"}, {"5" + sign + "5", "width"}, {"~5" + sign + "-300", "width"},
			{"isValid(h)" + sign + "h.f", "kind"}, {"h.f" + sign + "isValid(h)", "kind"}, {"isValid(h)" + sign + "isValid(h)", "kind"},
			{"5" + sign + "isValid(h)", "kind"}, {"isValid(h)" + sign + "5", "kind"}, {"(port == 1)" + sign + "1w1", "kind"},
		})
	}
	for _, sign := range []string{" && ", " || "} {
		wantRows(t, 0, []row{
			{"isValid(h)" + sign + "isValid(i)", "truth"}, {"port == 1" + sign + "x < 3", "truth"}, {"!isValid(h)" + sign + "!isValid(h)", "truth"},
			{"isValid(h)" + sign + "port", "kind"}, {"port" + sign + "isValid(h)", "kind"}, {"port" + sign + "port", "kind"}, {"isValid(h)" + sign + "1", "kind"},
			{"1" + sign + "isValid(h)", "kind"}, {"1" + sign + "1", "kind"}, {"isValid(h)" + sign + "1w1", "kind"}, {"meta.o" + sign + "isValid(h)", "kind"},
		})
	}
}

// What is wrong with an Arg is told ahead of what is wrong with what takes it, and the first one ahead of the second.
func TestP8_1OfTheFirstWrong(t *testing.T) {
	wantRows(t, 0, []row{
		{"!(1 == 2)", "width"}, {"~(1 == 2)", "width"}, {"(port + 512)[127:0]", "over"}, {"(1 == 2)[0:0]", "width"}, {"z << 1", "none"}, {"(h.f[8:0])[0:0]", "over"},
		{"!port + h.z", "kind"}, {"h.z + !port", "none"}, {"(port + 512) == (1 == 2)", "over"}, {"(1 == 2) == (port + 512)", "width"},
		{"isValid(h) + h.z", "none"}, {"h.z + isValid(h)", "none"}, {"5 ++ !port", "kind"}, {"!port ++ 5", "kind"}, {"isValid(h) && 1 == 2", "width"}, {"port && 1 == 2", "width"},
		{"1 == 2 && h.z == 1", "width"}, {"h.z == 1 && 1 == 2", "none"}, {"(h.f + 256 + z)[127:0]", "over"}, {"(z + 256 + h.f)[127:0]", "none"},
		{"~(isValid(h) + (h.g + h.f))", "width"}, {"((h.f + 256) ++ z) ++ !port", "over"},
	})
}

// operands are some of each type, and some with something wrong.
func operands() []api.Expr {
	return []api.Expr{
		valid("h"), of(api.ExEq, port(), lit(0, 1)), of(api.ExBang, valid("i")),
		lit(0, 0), lit(0, 3), lit(0, 300), free(num.Mask(128)), of(api.ExNot, lit(0, 3)), of(api.ExNeg, of(api.ExNot, lit(0, 300))),
		field("h", "f"), field("h", "g"), field("i", "w"), lit(8, 7), lit(9, 300), lit(128, 0), meta("o"), meta("w"), port(), param("x"), param("y"),
		of(api.ExNot, field("h", "f")), slice(field("i", "w"), 8, 0), of(api.ExCat, meta("o"), field("h", "f")), of(api.ExAdd, lit(0, 3), param("y")), of(api.ExShl, param("y"), lit(0, 9)),
		field("h", "z"), valid("z"), of(api.ExEq, lit(0, 1), lit(0, 2)), of(api.ExBang, port()), of(api.ExAdd, port(), lit(0, 512)), slice(lit(0, 1), 0, 0),
	}
}

// Each kind of expression of each of those operands, and of each two of them.
func TestP8_1OfEachOfEach(t *testing.T) {
	p := wholeTree(t)
	met := map[any]int{}
	for _, action := range []int{-1, 0, 1, 2} {
		o := oracleOf(p, action)
		want := func(e api.Expr) {
			t.Helper()
			s, err := o.sort(e)
			wantOf(t, p, action, e, orNothing(s, err), err)
			met[err]++
			met[s.truth()]++
		}
		for _, a := range operands() {
			want(a)
			for _, op := range []uint8{api.ExNot, api.ExNeg, api.ExBang} {
				want(of(op, a))
			}
			for _, hi := range []int{0, 1, 7, 8, 9, 126, 127} {
				want(slice(a, hi, 0))
				want(slice(a, hi, hi))
			}
			for _, k := range []uint64{0, 1, 8, 127} {
				want(of(api.ExShl, a, lit(0, k)))
				want(of(api.ExShr, a, lit(0, k)))
			}
			for op := api.ExCat; op <= api.ExAny; op++ {
				for _, b := range operands() {
					if op != api.ExShl && op != api.ExShr {
						want(of(op, a, b))
					}
				}
			}
		}
	}
	for _, x := range []any{api.OK, api.ErrNone, api.ErrKind, api.ErrWidth, api.ErrOver, true, false} {
		if met[x] < 500 {
			t.Errorf("%v was met %d times", x, met[x])
		}
	}
}

// orNothing is the type of what was reckoned, if nothing is wrong.
func orNothing(s sort, e api.Errno) api.Type {
	if e != api.OK {
		return api.Type{}
	}
	return s.told()
}

func TestP8_1OfSlicesOfAllWidths(t *testing.T) {
	p := wholeTree(t)
	for w := 1; w <= 128; w++ {
		for hi := range 128 {
			for _, lo := range []int{0, hi / 3, hi} {
				if hi < w {
					wantOf(t, p, -1, slice(lit(w, 0), hi, lo), api.Type{W: hi - lo + 1}, api.OK)
				} else {
					wantOf(t, p, -1, slice(lit(w, 0), hi, lo), api.Type{}, api.ErrOver)
				}
			}
		}
	}
}

func TestP8_1OfTwoOfAllWidths(t *testing.T) {
	p := wholeTree(t)
	for w := 1; w <= 128; w++ {
		for v := 1; v <= 128; v++ {
			a, b := lit(w, 1), lit(v, 0)
			if w+v <= 128 {
				wantOf(t, p, -1, of(api.ExCat, a, b), api.Type{W: w + v}, api.OK)
			} else {
				wantOf(t, p, -1, of(api.ExCat, a, b), api.Type{}, api.ErrOver)
			}
			if w == v {
				wantOf(t, p, -1, of(api.ExSub, a, b), api.Type{W: w}, api.OK)
				wantOf(t, p, -1, of(api.ExGt, a, b), api.Type{Truth: true}, api.OK)
			} else {
				wantOf(t, p, -1, of(api.ExSub, a, b), api.Type{}, api.ErrWidth)
				wantOf(t, p, -1, of(api.ExGt, a, b), api.Type{}, api.ErrWidth)
			}
		}
	}
}

// Numbers without a width beside each width: the greatest one that fits it, and the next one.
func TestP8_1OfFreeOnesOfAllWidths(t *testing.T) {
	p := wholeTree(t)
	for w := 1; w <= 128; w++ {
		for _, x := range []struct {
			n    api.Num
			fits bool
		}{{num.Of(0), true}, {num.Of(1), true}, {power(w, 1), true}, {power(w-1, 0), true}, {power(w, 0), w == 128}, {num.Mask(128), w == 128}} {
			sort, truth := api.Type{W: w}, api.Type{Truth: true}
			e := api.OK
			if !x.fits {
				sort, truth, e = api.Type{}, api.Type{}, api.ErrOver
			}
			for _, n := range []api.Expr{free(x.n), of(api.ExNeg, free(x.n)), of(api.ExNot, of(api.ExNeg, free(x.n)))} {
				wantOf(t, p, -1, of(api.ExAnd, lit(w, 0), n), sort, e)
				wantOf(t, p, -1, of(api.ExXor, n, lit(w, 1)), sort, e)
				wantOf(t, p, -1, of(api.ExLe, lit(w, 0), n), truth, e)
				wantOf(t, p, -1, of(api.ExNe, n, lit(w, 1)), truth, e)
			}
		}
	}
}

func TestP8_1OfWhatMayNotBe(t *testing.T) {
	p := wholeTree(t)
	round := make([]api.Expr, 1)
	round[0] = api.Expr{Op: api.ExNot, Args: round}
	deep := port()
	for range 15 {
		deep = of(api.ExNot, deep)
	}
	wantOf(t, p, -1, deep, api.Type{W: 9}, api.OK)
	for i, e := range []api.Expr{
		{}, {Op: 27}, {Op: 255}, round[0], of(api.ExNot, deep), of(api.ExAdd, port(), of(api.ExNeg, deep)),
		{Op: api.ExPort, Hi: 1}, {Op: api.ExLit, Lit: api.Lit{W: 129}}, lit(-1, 0), lit(8, 256), field("h", ""), field("if", "f"), meta("9"), param(""), valid(""),
		of(api.ExAdd, port()), of(api.ExAdd, port(), port(), port()), of(api.ExNot), of(api.ExShl, port(), port()), of(api.ExShl, port(), lit(0, 128)), of(api.ExShr, port(), lit(8, 1)),
		slice(port(), 128, 0), slice(port(), 0, 1), slice(port(), 3, -1),
		// Also where something else is wrong ahead.
		of(api.ExAdd, valid("h"), lit(8, 256)), of(api.ExAdd, field("h", "z"), api.Expr{}), of(api.ExBang, of(api.ExNot, valid("h"), valid("h"))),
	} {
		if got, err := types.Of(p, -1, e); got != (api.Type{}) || err != api.ErrArg {
			t.Errorf("Of %d is %+v, %d", i, got, err)
		}
		for _, w := range []int{-1, 0, 1, 9, 128, 129} {
			if err := types.Goes(p, -1, e, w); err != api.ErrArg {
				t.Errorf("Goes %d to %d is %d", i, w, err)
			}
		}
	}
}

// The deepest expression, and the one with the most parts.
func TestP8_1OfGreatOnes(t *testing.T) {
	p := wholeTree(t)
	sum, signs, wrong := param("y"), lit(0, 255), lit(0, 256)
	for depth := 2; depth <= 16; depth++ {
		sum, signs, wrong = of(api.ExAdd, sum, sum), of(api.ExNot, signs), of(api.ExNeg, wrong)
		wantOf(t, p, 0, sum, api.Type{W: 8}, api.OK)
		wantOf(t, p, -1, sum, api.Type{}, api.ErrNone)
		wantOf(t, p, 0, signs, api.Type{Free: true}, api.OK)
		wantGoes(t, p, 0, signs, 8, api.OK)
		wantGoes(t, p, 0, wrong, 8, api.ErrOver)
	}
}

// Names mean the first ones, and the program is asked for these alone.
func TestP8_1OfAnyProgram(t *testing.T) {
	wantOf(t, api.Program{}, -1, of(api.ExAdd, port(), lit(0, 1)), api.Type{W: 9}, api.OK)
	wantOf(t, api.Program{}, -1, lit(0, 1), api.Type{Free: true}, api.OK)
	for _, e := range []api.Expr{field("h", "f"), meta("m"), param("x"), valid("h")} {
		wantOf(t, api.Program{}, 0, e, api.Type{}, api.ErrNone)
	}
	twice := func(w int) []api.Field {
		return []api.Field{{Name: "a", W: 1}, {Name: "x", W: w}, {Name: "x", W: w + 1}}
	}
	p := sample.Least()
	p.Headers = []api.Header{{Name: "h", Fields: twice(8)}, {Name: "h", Fields: twice(16)}, {Name: "i", Fields: twice(24)}}
	p.Metas = twice(32)
	p.Actions = []api.Action{{Name: "a", Params: twice(40)}, {Name: "a", Params: twice(48)}}
	for _, x := range []struct {
		e api.Expr
		w int
	}{{field("h", "x"), 8}, {field("i", "x"), 24}, {meta("x"), 32}, {param("x"), 48}} {
		wantOf(t, p, 1, x.e, api.Type{W: x.w}, api.OK)
	}
	wantOf(t, p, 0, param("x"), api.Type{W: 40}, api.OK)
}

func TestP8_1NothingChanges(t *testing.T) {
	p := wholeTree(t)
	for i, e := range operands() {
		types.Of(p, 0, e)
		types.Goes(p, 0, e, 8)
		if !reflect.DeepEqual(e, operands()[i]) || !reflect.DeepEqual(p, wholeTree(t)) {
			t.Fatalf("%s, or the program, is changed", print.Expr(e))
		}
	}
}
