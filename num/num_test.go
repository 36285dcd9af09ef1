package num_test

import (
	"bytes"
	"math"
	"math/big"
	"strings"
	"testing"

	"quillon/api"
	"quillon/num"
)

const (
	half     = math.MaxUint64
	greatest = "340282366920938463463374607431768211455"
)

func one(lo uint64) api.Num { return api.Num{Lo: lo} }

func two(hi, lo uint64) api.Num { return api.Num{Hi: hi, Lo: lo} }

// edges are numbers at the ends of both halves, and some between.
func edges() []api.Num {
	l := []api.Num{
		{}, one(1), one(2), one(9), one(10), one(255), one(256), one(half - 1), one(half),
		two(1, 0), two(1, 1), two(0, 1<<63), two(1<<63, 0), two(half, 0), two(half, half-1), two(half, half),
		two(0x0123456789abcdef, 0xfedcba9876543210), two(0x8000000000000001, 0x8000000000000001),
	}
	// A fixed row of numbers without a pattern: the same in each run.
	x := uint64(0x9e3779b97f4a7c15)
	next := func() uint64 {
		x ^= x << 13
		x ^= x >> 7
		x ^= x << 17
		return x
	}
	for range 12 {
		l = append(l, two(next(), next()))
	}
	return l
}

// widths are widths, shifts and places of bits: ordinary ones, the edges, and beyond.
func widths() []int {
	return []int{math.MinInt, math.MinInt + 1, -129, -128, -64, -1, 0, 1, 2, 7, 8, 9, 31, 32, 63, 64, 65, 66, 100, 126, 127, 128, 129, 192, 256, math.MaxInt - 1, math.MaxInt}
}

func toBig(n api.Num) *big.Int {
	b := new(big.Int).SetUint64(n.Hi)
	return b.Lsh(b, 64).Or(b, new(big.Int).SetUint64(n.Lo))
}

func power(w int) *big.Int { return new(big.Int).Lsh(big.NewInt(1), uint(w)) }

// cutBig is a whole number, also one below 0, modulo 2 to the width.
func cutBig(b *big.Int, w int) *big.Int {
	return new(big.Int).Mod(b, power(min(max(w, 0), 128)))
}

func wantBig(t *testing.T, got api.Num, want *big.Int, call string, args ...any) {
	t.Helper()
	if toBig(got).Cmp(want) != 0 {
		t.Errorf("%s of %v is %v, not %v", call, args, got, want)
	}
}

func wantNum(t *testing.T, got, want api.Num, call string) {
	t.Helper()
	if got != want {
		t.Errorf("%s is %v, not %v", call, got, want)
	}
}

// P1.1

func TestP1_1Of(t *testing.T) {
	for _, n := range []uint64{0, 1, 255, 1 << 32, 1 << 63, half} {
		wantNum(t, num.Of(n), api.Num{Hi: 0, Lo: n}, "Of")
	}
}

func TestP1_1Cmp(t *testing.T) {
	for _, a := range edges() {
		for _, b := range edges() {
			if got, want := num.Cmp(a, b), toBig(a).Cmp(toBig(b)); got != want {
				t.Errorf("Cmp of %v and %v is %d, not %d", a, b, got, want)
			}
		}
	}
	for _, x := range []struct {
		a, b api.Num
		want int
	}{
		{one(0), one(0), 0}, {one(1), one(2), -1}, {one(2), one(1), 1},
		{two(1, 0), one(half), 1}, {one(half), two(1, 0), -1}, // the upper half goes first
		{two(3, 1), two(3, 2), -1}, {two(3, 2), two(3, 1), 1}, {two(3, 2), two(3, 2), 0},
		{two(1, 9), two(2, 3), -1}, {two(1<<63, 0), two(1, 0), 1}, // no sign
	} {
		if got := num.Cmp(x.a, x.b); got != x.want {
			t.Errorf("Cmp of %v and %v is %d, not %d", x.a, x.b, got, x.want)
		}
	}
}

func TestP1_1Mask(t *testing.T) {
	for _, x := range []struct {
		w    int
		want api.Num
	}{
		{math.MinInt, one(0)}, {-1, one(0)}, {0, one(0)}, {1, one(1)}, {8, one(255)}, {63, one(half >> 1)}, {64, one(half)}, {65, two(1, half)},
		{127, two(half>>1, half)}, {128, two(half, half)}, {129, two(half, half)}, {math.MaxInt, two(half, half)},
	} {
		wantNum(t, num.Mask(x.w), x.want, "Mask")
	}
	for w := 0; w <= 128; w++ {
		wantBig(t, num.Mask(w), new(big.Int).Sub(power(w), big.NewInt(1)), "Mask", w)
	}
}

func TestP1_1CutAndFits(t *testing.T) {
	for _, n := range edges() {
		for _, w := range widths() {
			want := cutBig(toBig(n), w)
			wantBig(t, num.Cut(n, w), want, "Cut", n, w)
			if got := num.Fits(n, w); got != (want.Cmp(toBig(n)) == 0) {
				t.Errorf("Fits of %v, %d is %v", n, w, got)
			}
		}
	}
	for _, x := range []struct {
		n    api.Num
		w    int
		want bool
	}{
		{one(0), 0, true}, {one(0), -5, true}, {one(0), math.MinInt, true}, {one(1), 0, false}, {one(1), -1, false}, {one(1), 1, true}, {one(2), 1, false},
		{one(255), 8, true}, {one(256), 8, false}, {one(half), 64, true}, {two(1, 0), 64, false}, {two(1, 0), 65, true},
		{two(half, half), 127, false}, {two(half, half), 128, true}, {two(half, half), 500, true},
	} {
		if got := num.Fits(x.n, x.w); got != x.want {
			t.Errorf("Fits of %v, %d is %v", x.n, x.w, got)
		}
	}
}

func TestP1_1BitByBit(t *testing.T) {
	for _, a := range edges() {
		for _, b := range edges() {
			x, y := toBig(a), toBig(b)
			wantBig(t, num.And(a, b), new(big.Int).And(x, y), "And", a, b)
			wantBig(t, num.Or(a, b), new(big.Int).Or(x, y), "Or", a, b)
			wantBig(t, num.Xor(a, b), new(big.Int).Xor(x, y), "Xor", a, b)
		}
		for _, w := range widths() {
			wantBig(t, num.Not(a, w), cutBig(new(big.Int).Not(toBig(a)), w), "Not", a, w)
		}
	}
	a, b := two(12, 10), two(10, 12)
	wantNum(t, num.And(a, b), two(8, 8), "And")
	wantNum(t, num.Or(a, b), two(14, 14), "Or")
	wantNum(t, num.Xor(a, b), two(6, 6), "Xor")
	wantNum(t, num.Not(one(5), 4), one(10), "Not")
	wantNum(t, num.Not(one(0x35), 4), one(10), "Not") // bits above the width are gone
	wantNum(t, num.Not(one(5), 0), one(0), "Not")
	wantNum(t, num.Not(one(5), -3), one(0), "Not")
	wantNum(t, num.Not(one(0), 128), two(half, half), "Not")
	wantNum(t, num.Not(one(0), 1000), two(half, half), "Not")
}

// P1.2

func TestP1_2AddAndSub(t *testing.T) {
	for _, a := range edges() {
		for _, b := range edges() {
			for _, w := range widths() {
				x, y := toBig(a), toBig(b)
				wantBig(t, num.Add(a, b, w), cutBig(new(big.Int).Add(x, y), w), "Add", a, b, w)
				wantBig(t, num.Sub(a, b, w), cutBig(new(big.Int).Sub(x, y), w), "Sub", a, b, w)
			}
		}
	}
	wantNum(t, num.Sub(one(0), one(1), 8), one(255), "Sub")
	wantNum(t, num.Sub(one(0), one(1), 128), two(half, half), "Sub")
	wantNum(t, num.Sub(two(1, 0), one(1), 128), one(half), "Sub")
	wantNum(t, num.Add(one(255), one(1), 8), one(0), "Add")
	wantNum(t, num.Add(one(half), one(1), 128), two(1, 0), "Add")
	wantNum(t, num.Add(one(half), one(1), 64), one(0), "Add")
	wantNum(t, num.Add(two(half, half), one(2), 128), one(1), "Add")
	wantNum(t, num.Add(one(3), one(4), 0), one(0), "Add")
	wantNum(t, num.Sub(one(3), one(4), -1), one(0), "Sub")
}

// Sums hang on no order: neither on that of two numbers, nor on that in which several are put together.
func TestP1_2SumsHangOnNoOrder(t *testing.T) {
	l := edges()
	for i, a := range l {
		for j, b := range l {
			c := l[(i+2*j)%len(l)]
			for _, w := range []int{1, 8, 64, 65, 128} {
				wantNum(t, num.Add(a, b, w), num.Add(b, a, w), "Add")
				wantNum(t, num.Add(num.Add(a, b, w), c, w), num.Add(a, num.Add(b, c, w), w), "Add")
				wantNum(t, num.Sub(num.Add(a, b, w), b, w), num.Cut(a, w), "Sub of Add")
			}
		}
	}
}

func TestP1_2Shl(t *testing.T) {
	for _, n := range edges() {
		for _, k := range widths() {
			for _, w := range widths() {
				shifted := new(big.Int).Lsh(toBig(n), uint(min(max(k, 0), 128)))
				wantBig(t, num.Shl(n, k, w), cutBig(shifted, w), "Shl", n, k, w)
			}
		}
	}
	for _, x := range []struct {
		n    api.Num
		k, w int
		want api.Num
	}{
		{one(3), 1, 8, one(6)}, {one(3), 7, 8, one(128)}, {one(3), 8, 8, one(0)}, {one(3), 0, 1, one(1)},
		{one(3), -1, 8, one(3)}, {one(3), math.MinInt, 128, one(3)}, // below 0 as 0
		{one(3), 63, 128, two(1, 1<<63)}, {one(3), 64, 128, two(3, 0)}, {one(3), 127, 128, two(1<<63, 0)},
		{one(3), 128, 128, one(0)}, {two(half, half), 128, 500, one(0)}, {two(half, half), math.MaxInt, 128, one(0)},
		{two(half, half), 4, 0, one(0)}, {two(half, half), 4, -7, one(0)},
	} {
		wantNum(t, num.Shl(x.n, x.k, x.w), x.want, "Shl")
	}
}

func TestP1_2Shr(t *testing.T) {
	for _, n := range edges() {
		for _, k := range widths() {
			wantBig(t, num.Shr(n, k), new(big.Int).Rsh(toBig(n), uint(min(max(k, 0), 128))), "Shr", n, k)
		}
	}
	for _, x := range []struct {
		n    api.Num
		k    int
		want api.Num
	}{
		{one(7), 1, one(3)}, {one(7), 3, one(0)}, // rounded down
		{two(5, 7), 0, two(5, 7)}, {two(5, 7), -1, two(5, 7)}, {two(5, 7), math.MinInt, two(5, 7)},
		{two(3, 0), 1, two(1, 1<<63)}, {two(3, 9), 64, one(3)}, {two(1<<63, 0), 127, one(1)},
		{two(half, half), 128, one(0)}, {two(half, half), math.MaxInt, one(0)},
	} {
		wantNum(t, num.Shr(x.n, x.k), x.want, "Shr")
	}
}

func TestP1_2Bit(t *testing.T) {
	for _, n := range edges() {
		for i := range 128 {
			if got, want := num.Bit(n, i), toBig(n).Bit(i) == 1; got != want {
				t.Errorf("Bit of %v, %d is %v", n, i, got)
			}
		}
	}
	for _, i := range []int{math.MinInt, -128, -64, -1, 128, 129, 192, 256, math.MaxInt} {
		if num.Bit(two(half, half), i) {
			t.Errorf("Bit of %d is true: there is none", i)
		}
	}
}

func TestP1_2Slice(t *testing.T) {
	for _, n := range edges() {
		for _, hi := range widths() {
			for _, lo := range widths() {
				want := new(big.Int)
				if lo >= 0 && hi >= lo {
					want.Rsh(toBig(n), uint(min(lo, 128)))
					want = cutBig(want, min(hi-lo, 127)+1)
				}
				wantBig(t, num.Slice(n, hi, lo), want, "Slice", n, hi, lo)
			}
		}
	}
	all := two(half, half)
	for _, x := range []struct {
		n      api.Num
		hi, lo int
		want   api.Num
	}{
		{one(0xabcd), 11, 4, one(0xbc)}, {one(0xabcd), 0, 0, one(1)}, {one(0xabcd), 1, 1, one(0)},
		{two(0xf1, 0x8f<<56), 67, 60, one(0x18)}, {all, 127, 0, all}, {all, 127, 127, one(1)}, {all, 63, 0, one(half)},
		{all, -1, -1, one(0)}, {all, 7, -1, one(0)}, {all, 7, math.MinInt, one(0)}, // lo is below 0
		{all, 6, 7, one(0)}, {all, -1, 0, one(0)}, {all, math.MinInt, 0, one(0)}, {all, 0, math.MaxInt, one(0)}, // hi is below lo
		{all, 200, 120, one(255)}, {all, math.MaxInt, 0, all}, {all, math.MaxInt, 1, two(half>>1, half)}, {all, 200, 128, one(0)}, {all, math.MaxInt, math.MaxInt, one(0)},
	} {
		wantNum(t, num.Slice(x.n, x.hi, x.lo), x.want, "Slice")
	}
}

func TestP1_2Cat(t *testing.T) {
	for _, a := range edges() {
		for _, b := range edges() {
			for _, w := range widths() {
				held := min(max(w, 0), 128)
				want := cutBig(new(big.Int).Lsh(toBig(a), uint(held)), 128)
				wantBig(t, num.Cat(a, b, w), want.Or(want, cutBig(toBig(b), held)), "Cat", a, b, w)
			}
		}
	}
	for _, x := range []struct {
		a, b api.Num
		w    int
		want api.Num
	}{
		{one(3), one(0xff), 8, one(0x3ff)}, {one(3), one(0x1ff), 8, one(0x3ff)}, {one(3), one(5), 64, two(3, 5)},
		{one(3), one(5), 0, one(3)}, {one(3), one(5), -1, one(3)}, {one(3), one(5), math.MinInt, one(3)},
		{one(3), two(7, 5), 128, two(7, 5)}, {one(3), two(7, 5), 129, two(7, 5)}, {one(3), two(7, 5), math.MaxInt, two(7, 5)},
		{one(3), one(0), 127, two(1<<63, 0)}, {two(half, 1), one(2), 8, two(half-255, 0x102)},
	} {
		wantNum(t, num.Cat(x.a, x.b, x.w), x.want, "Cat")
	}
}

// P1.3

func TestP1_3Bytes(t *testing.T) {
	n := two(0x0123456789abcdef, 0xfedcba9876543210)
	all := []byte{0x01, 0x23, 0x45, 0x67, 0x89, 0xab, 0xcd, 0xef, 0xfe, 0xdc, 0xba, 0x98, 0x76, 0x54, 0x32, 0x10}
	for many := range 17 {
		if got := num.Bytes(n, many); !bytes.Equal(got, all[16-many:]) {
			t.Errorf("Bytes of %d is %v", many, got)
		}
	}
	for _, x := range []struct{ many, want int }{{math.MinInt, 0}, {-1, 0}, {17, 16}, {99, 16}, {math.MaxInt, 16}} {
		if got := num.Bytes(n, x.many); !bytes.Equal(got, all[16-x.want:]) {
			t.Errorf("Bytes of %d is %v", x.many, got)
		}
	}
	if got := num.Bytes(one(7), 3); !bytes.Equal(got, []byte{0, 0, 7}) {
		t.Errorf("Bytes of 7 is %v", got)
	}
}

func TestP1_3From(t *testing.T) {
	for _, x := range []struct {
		b    []byte
		want api.Num
	}{
		{nil, one(0)}, {[]byte{}, one(0)}, {[]byte{0}, one(0)}, {[]byte{7}, one(7)}, {[]byte{1, 0}, one(256)}, {[]byte{0, 0, 255}, one(255)},
		{[]byte{1, 2, 3, 4, 5, 6, 7, 8, 9}, two(1, 0x0203040506070809)},
		{bytes.Repeat([]byte{255}, 16), two(half, half)},
		{append([]byte{9}, bytes.Repeat([]byte{0}, 16)...), one(0)}, // of more than 16 the last 16
		{append([]byte{9, 9, 1}, bytes.Repeat([]byte{0}, 15)...), two(1<<56, 0)},
	} {
		handed := bytes.Clone(x.b)
		wantNum(t, num.From(handed), x.want, "From")
		if !bytes.Equal(handed, x.b) {
			t.Error("From changed its bytes")
		}
	}
	for _, n := range edges() {
		for many := range 17 {
			wantNum(t, num.From(num.Bytes(n, many)), num.Cut(n, 8*many), "From of Bytes")
		}
	}
}

func TestP1_3Parse(t *testing.T) {
	for _, x := range []struct {
		s    string
		want api.Num
	}{
		{"0", one(0)}, {"7", one(7)}, {"255", one(255)}, {"007", one(7)}, {"1234567890", one(1234567890)},
		{"0x0", one(0)}, {"0xfF", one(255)}, {"0xabcdef", one(0xabcdef)}, {"0xABCDEF", one(0xabcdef)}, {"0x0123456789", one(0x123456789)}, {"0x00ff", one(255)},
		{"18446744073709551615", one(half)}, {"18446744073709551616", two(1, 0)}, {"0x10000000000000000", two(1, 0)},
		{greatest, two(half, half)}, {"0x" + strings.Repeat("f", 32), two(half, half)},
		{strings.Repeat("0", 100) + greatest, two(half, half)}, {"0x" + strings.Repeat("0", 100) + "1f", one(31)},
	} {
		if n, e := num.Parse(x.s); n != x.want || e != api.OK {
			t.Errorf("Parse of %q is %v, %d", x.s, n, e)
		}
	}
}

func TestP1_3ParseRefusesForm(t *testing.T) {
	for _, s := range []string{
		"", "0x", "x", "x1", "0X1", "00x1", "0x0x1", "1x", "0b1", "0xg", "0xG", "0x1g", "0x-1", "0x 1",
		"a", "f", "12a", "1f", "-1", "+1", " 1", "1 ", "1\n", "1_000", "1.0", "1e3", "8w255", "/", ":", "1/", "1:",
		"0x@", "0x`", "0x/", "0x:", "\x00", "1\x00", "\xff", "1\xff", "0x\xc3", "\u0663", "1\u0663", "\uff11", "0x\uff21", "\u00b2",
	} {
		if n, e := num.Parse(s); n != (api.Num{}) || e != api.ErrForm {
			t.Errorf("Parse of %q is %v, %d", s, n, e)
		}
	}
}

func TestP1_3ParseRefusesOver(t *testing.T) {
	for _, s := range []string{
		"340282366920938463463374607431768211456", "340282366920938463463374607431768211460", "999999999999999999999999999999999999999",
		"1000000000000000000000000000000000000000", "680564733841876926926749214863536422912", "3402823669209384634633746074317682114560", strings.Repeat("9", 500), "1" + strings.Repeat("0", 300),
		"0x100000000000000000000000000000000", "0x1" + strings.Repeat("0", 100), "0x" + strings.Repeat("f", 33),
	} {
		if n, e := num.Parse(s); n != (api.Num{}) || e != api.ErrOver {
			t.Errorf("Parse of %q is %v, %d", s, n, e)
		}
	}
	// A text that is no number at all is told ahead of one that is too great.
	for _, s := range []string{greatest + "0a", "0x" + strings.Repeat("f", 40) + "g", strings.Repeat("9", 500) + "\xff"} {
		if n, e := num.Parse(s); n != (api.Num{}) || e != api.ErrForm {
			t.Errorf("Parse of %q is %v, %d", s, n, e)
		}
	}
}

func TestP1_3Text(t *testing.T) {
	for _, x := range []struct {
		n    api.Num
		want string
	}{
		{one(0), "0"}, {one(1), "1"}, {one(9), "9"}, {one(10), "10"}, {one(100), "100"}, {one(1010), "1010"},
		{one(half), "18446744073709551615"}, {two(1, 0), "18446744073709551616"}, {two(half, half), greatest},
	} {
		if got := num.Text(x.n); got != x.want {
			t.Errorf("Text of %v is %q", x.n, got)
		}
	}
	for _, n := range edges() {
		if got := num.Text(n); got != toBig(n).String() {
			t.Errorf("Text of %v is %q", n, got)
		}
	}
	for ten, n := 0, one(1); ten < 39; ten++ {
		if got := num.Text(n); got != "1"+strings.Repeat("0", ten) {
			t.Errorf("Text of 10^%d is %q", ten, got)
		}
		n = num.Add(num.Shl(n, 3, 128), num.Shl(n, 1, 128), 128)
	}
}

func TestP1_3ParseOfTextIsTheNumber(t *testing.T) {
	for _, n := range edges() {
		if m, e := num.Parse(num.Text(n)); m != n || e != api.OK {
			t.Errorf("Parse of Text of %v is %v, %d", n, m, e)
		}
		hex := "0x" + toBig(n).Text(16)
		for _, s := range []string{hex, "0x" + strings.ToUpper(hex[2:])} {
			if m, e := num.Parse(s); m != n || e != api.OK {
				t.Errorf("Parse of %q is %v, %d", s, m, e)
			}
		}
	}
}
