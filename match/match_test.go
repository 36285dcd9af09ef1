package match_test

import (
	"fmt"
	"math"
	"strings"
	"testing"

	"quillon/api"
	"quillon/match"
	"quillon/num"
)

// P11.1

func TestP11_1May(t *testing.T) {
	for _, c := range []struct {
		p    api.Pat
		w    int
		want bool
	}{
		{of(0, 0), 4, true}, {of(0, 15), 4, true}, {of(15, 15), 4, true}, {of(4, 6), 4, true}, {of(0, 6), 4, true},
		{of(0, 0), 1, true}, {of(0, 1), 1, true}, {of(1, 1), 1, true}, {of(0, 0), 128, true},
		{of(1, 0), 4, false}, {of(5, 6), 4, false}, {of(8, 6), 4, false}, {of(15, 14), 4, false}, // V has bits outside M
		{of(0, 16), 4, false}, {of(16, 16), 4, false}, {of(0, 31), 4, false}, {of(0, 2), 1, false}, // M does not fit
		{of(16, 15), 4, false}, {of(16, 0), 4, false}, // V does not fit
		{of(half, half), 64, true}, {of(half, half), 63, false}, {of(1<<62, 1<<62), 63, true},
		{api.Pat{M: two(1, 0)}, 64, false}, {api.Pat{M: two(1, 0)}, 65, true}, {api.Pat{M: two(2, 0)}, 65, false},
		{api.Pat{V: two(1, 0), M: two(1, 0)}, 65, true}, {api.Pat{V: two(1, 0), M: one(half)}, 65, false}, {api.Pat{V: one(1), M: two(1, 0)}, 65, false},
		{api.Pat{V: two(1, 0), M: one(1)}, 128, false}, // not the same half
		{api.Pat{V: two(half, half), M: two(half, half)}, 128, true}, {api.Pat{V: two(half, half), M: two(half, half)}, 127, false},
		{api.Pat{V: two(1<<63, 0), M: two(1<<63, 0)}, 128, true}, {api.Pat{V: two(1<<63, 0), M: two(half>>1, half)}, 128, false},
	} {
		if got := match.May(c.p, c.w); got != c.want {
			t.Errorf("May of %v of %d bits is %v", c.p, c.w, got)
		}
	}
}

func TestP11_1MayOfNoWidth(t *testing.T) {
	for _, w := range noWidths() {
		for _, p := range []api.Pat{{}, of(0, 1), of(1, 1), of(1, 0), {V: two(half, half), M: two(half, half)}} {
			if match.May(p, w) {
				t.Errorf("May of %v of %d bits is true", p, w)
			}
		}
	}
}

// Of all V and M of one bit more than the width those may be that are the pattern of a text.
func TestP11_1MayOfSmall(t *testing.T) {
	for w := 1; w <= 4; w++ {
		may := map[api.Pat]int{}
		for _, s := range texts(w) {
			may[pat(s)]++
		}
		for v := range uint64(1) << (w + 1) {
			for m := range uint64(1) << (w + 1) {
				if got, want := match.May(of(v, m), w), may[of(v, m)] == 1; got != want {
					t.Errorf("May of V %b, M %b of %d bits is %v", v, m, w, got)
				}
			}
		}
	}
}

func TestP11_1MayOfEachWidth(t *testing.T) {
	for w := 1; w <= 128; w++ {
		for _, s := range []string{strings.Repeat("*", w), strings.Repeat("0", w), strings.Repeat("1", w), "1" + strings.Repeat("*", w-1), strings.Repeat("*", w-1) + "0"} {
			if !match.May(pat(s), w) {
				t.Errorf("May of %s is false", s)
			}
		}
		if w == 128 {
			return // no number has a bit more
		}
		for _, s := range []string{"0", "1"} {
			if s += strings.Repeat("*", w); match.May(pat(s), w) {
				t.Errorf("May of %s of %d bits is true", s, w)
			}
		}
	}
}

func TestP11_1Agrees(t *testing.T) {
	for _, c := range []struct {
		p    api.Pat
		n    api.Num
		want bool
	}{
		{of(12, 12), one(11), false}, {of(12, 12), one(12), true}, {of(12, 12), one(15), true}, {of(12, 12), one(16), false},
		{of(12, 12), one(28), true}, // no bit of M
		{of(4, 6), one(4), true}, {of(4, 6), one(13), true}, {of(4, 6), one(6), false}, {of(4, 6), one(0), false},
		{of(0, 0), one(0), true}, {of(0, 0), one(9), true}, {of(0, 0), two(half, half), true}, {of(0, 15), one(0), true}, {of(0, 15), one(1), false},
		{api.Pat{V: two(3, 0), M: two(3, 0)}, two(3, 0), true}, {api.Pat{V: two(3, 0), M: two(3, 0)}, two(7, 9), true},
		{api.Pat{V: two(3, 0), M: two(3, 0)}, two(1, 0), false}, {api.Pat{V: two(3, 0), M: two(3, 0)}, one(3), false}, {api.Pat{V: one(3), M: one(3)}, two(3, 0), false},
		{api.Pat{V: two(half, half), M: two(half, half)}, two(half, half), true}, {api.Pat{V: two(half, half), M: two(half, half)}, two(half, half-1), false},
		{of(5, 6), one(4), false}, {of(5, 6), one(5), false}, {of(1, 0), one(0), false}, {of(1, 0), one(1), false}, // in M there is never what V has outside it
	} {
		if got := match.Agrees(c.p, c.n); got != c.want {
			t.Errorf("Agrees of %v and %v is %v", c.p, c.n, got)
		}
	}
}

func TestP11_1AgreesOfSmall(t *testing.T) {
	for w := 1; w <= 4; w++ {
		for _, s := range texts(w) {
			for n, bits := range numbersOf(w) {
				if got := match.Agrees(pat(s), one(uint64(n))); got != isWithin(bits, s) {
					t.Errorf("Agrees of %s and %s is %v", s, bits, got)
				}
			}
		}
	}
}

func TestP11_1AgreesByChance(t *testing.T) {
	m := newMaker(1)
	is := map[bool]int{}
	for range 20000 {
		w := 1 + m.Intn(128)
		bits := m.row(w, "01")
		s := m.changed(m.opened(bits), "01*")
		got := match.Agrees(pat(s), pat(bits).V)
		if got != isWithin(bits, s) {
			t.Fatalf("Agrees of %s and %s is %v", s, bits, got)
		}
		is[got]++
	}
	if is[true] < 2000 || is[false] < 2000 {
		t.Errorf("so many agree: %v", is)
	}
}

func TestP11_1Exact(t *testing.T) {
	for _, c := range []struct {
		n    api.Num
		w    int
		want api.Pat
		e    api.Errno
	}{
		{one(13), 4, of(13, 15), api.OK}, {one(0), 4, of(0, 15), api.OK}, {one(15), 4, of(15, 15), api.OK},
		{one(16), 4, api.Pat{}, api.ErrOver}, {one(17), 4, api.Pat{}, api.ErrOver},
		{one(0), 1, of(0, 1), api.OK}, {one(1), 1, of(1, 1), api.OK}, {one(2), 1, api.Pat{}, api.ErrOver},
		{one(half), 63, api.Pat{}, api.ErrOver}, {one(half), 64, of(half, half), api.OK}, {two(1, 0), 64, api.Pat{}, api.ErrOver},
		{two(1, 2), 65, api.Pat{V: two(1, 2), M: two(1, half)}, api.OK}, {two(2, 0), 65, api.Pat{}, api.ErrOver},
		{two(half, half), 127, api.Pat{}, api.ErrOver}, {two(half, half), 128, api.Pat{V: two(half, half), M: two(half, half)}, api.OK},
		{one(7), 128, api.Pat{V: one(7), M: two(half, half)}, api.OK},
		{one(0), 0, api.Pat{}, api.ErrArg}, {one(1), 0, api.Pat{}, api.ErrArg}, {one(0), -1, api.Pat{}, api.ErrArg}, {one(0), 129, api.Pat{}, api.ErrArg},
	} {
		got, e := match.Exact(c.n, c.w)
		wantPat(t, fmt.Sprintf("Exact of %v of %d bits", c.n, c.w), got, e, c.want, c.e)
	}
}

func TestP11_1ExactIsThatNumberAlone(t *testing.T) {
	for w := 1; w <= 5; w++ {
		for n := range uint64(1) << w {
			p, e := match.Exact(one(n), w)
			for m := range uint64(1) << w {
				if got := match.Agrees(p, one(m)); got != (m == n) || e != api.OK || !match.May(p, w) {
					t.Errorf("Exact of %d of %d bits is %v, %d", n, w, p, e)
				}
			}
		}
	}
}

func TestP11_1Prefix(t *testing.T) {
	for _, c := range []struct {
		n         api.Num
		length, w int
		want      api.Pat
		e         api.Errno
	}{
		{one(13), 0, 4, of(0, 0), api.OK}, {one(13), 1, 4, of(8, 8), api.OK}, {one(13), 2, 4, of(12, 12), api.OK}, {one(13), 3, 4, of(12, 14), api.OK}, {one(13), 4, 4, of(13, 15), api.OK},
		{one(2), 2, 4, of(0, 12), api.OK}, {one(1), 1, 1, of(1, 1), api.OK}, {one(1), 0, 1, of(0, 0), api.OK},
		{one(13), 5, 4, api.Pat{}, api.ErrOver}, {one(13), -1, 4, api.Pat{}, api.ErrOver}, {one(0), math.MinInt, 4, api.Pat{}, api.ErrOver}, {one(0), math.MaxInt, 4, api.Pat{}, api.ErrOver},
		{one(16), 0, 4, api.Pat{}, api.ErrOver}, {one(16), 2, 4, api.Pat{}, api.ErrOver}, {one(16), 4, 4, api.Pat{}, api.ErrOver}, {one(16), 5, 4, api.Pat{}, api.ErrOver},
		{two(1, 0), 0, 64, api.Pat{}, api.ErrOver}, {two(1, 0), 1, 65, api.Pat{V: two(1, 0), M: two(1, 0)}, api.OK}, {two(1, half), 2, 65, api.Pat{V: two(1, 1<<63), M: two(1, 1<<63)}, api.OK},
		{two(half, half), 0, 128, api.Pat{}, api.OK}, {two(half, half), 1, 128, api.Pat{V: two(1<<63, 0), M: two(1<<63, 0)}, api.OK},
		{two(half, half), 64, 128, api.Pat{V: two(half, 0), M: two(half, 0)}, api.OK}, {two(half, half), 127, 128, api.Pat{V: two(half, half-1), M: two(half, half-1)}, api.OK},
		{two(half, half), 128, 128, api.Pat{V: two(half, half), M: two(half, half)}, api.OK}, {two(half, half), 129, 128, api.Pat{}, api.ErrOver}, {two(half, half), 127, 127, api.Pat{}, api.ErrOver},
		{one(0), 0, 0, api.Pat{}, api.ErrArg}, {one(0), 0, 129, api.Pat{}, api.ErrArg}, {one(0), 0, -1, api.Pat{}, api.ErrArg}, {one(0), 129, 129, api.Pat{}, api.ErrArg},
		{one(1), 1, 0, api.Pat{}, api.ErrArg}, {one(0), -2, -1, api.Pat{}, api.ErrArg}, {one(0), 200, 129, api.Pat{}, api.ErrArg}, // a width that may not be goes ahead
	} {
		got, e := match.Prefix(c.n, c.length, c.w)
		wantPat(t, fmt.Sprintf("Prefix %v of %d of %d bits", c.n, c.length, c.w), got, e, c.want, c.e)
	}
}

// Of all widths, and all lengths, the bits behind are open.
func TestP11_1PrefixOfEachLength(t *testing.T) {
	m := newMaker(2)
	for w := 1; w <= 128; w++ {
		bits := m.row(w, "01")
		n := pat(bits).V
		for length := 0; length <= w; length++ {
			got, e := match.Prefix(n, length, w)
			want := pat(bits[:length] + strings.Repeat("*", w-length))
			wantPat(t, fmt.Sprintf("Prefix %s of %d", bits, length), got, e, want, api.OK)
		}
		whole, e := match.Exact(n, w)
		wantPat(t, "Exact of "+bits, whole, e, pat(bits), api.OK)
	}
}

func TestP11_1Masked(t *testing.T) {
	for _, c := range []struct {
		n, m api.Num
		w    int
		want api.Pat
		e    api.Errno
	}{
		{one(5), one(6), 4, of(4, 6), api.OK}, {one(5), one(0), 4, of(0, 0), api.OK}, {one(5), one(15), 4, of(5, 15), api.OK}, {one(15), one(9), 4, of(9, 9), api.OK}, {one(0), one(9), 4, of(0, 9), api.OK},
		{one(1), one(1), 1, of(1, 1), api.OK}, {one(1), one(0), 1, of(0, 0), api.OK},
		{one(16), one(6), 4, api.Pat{}, api.ErrOver}, {one(5), one(16), 4, api.Pat{}, api.ErrOver}, {one(16), one(16), 4, api.Pat{}, api.ErrOver}, {one(16), one(0), 4, api.Pat{}, api.ErrOver}, {one(0), one(16), 4, api.Pat{}, api.ErrOver},
		{two(1, 0), one(1), 64, api.Pat{}, api.ErrOver}, {one(1), two(1, 0), 64, api.Pat{}, api.ErrOver}, {two(1, 3), two(1, 1), 65, api.Pat{V: two(1, 1), M: two(1, 1)}, api.OK},
		{two(half, half), two(half, 0), 128, api.Pat{V: two(half, 0), M: two(half, 0)}, api.OK}, {two(12, 10), two(10, 12), 128, api.Pat{V: two(8, 8), M: two(10, 12)}, api.OK},
		{two(half, half), one(0), 127, api.Pat{}, api.ErrOver}, {one(0), two(half, half), 127, api.Pat{}, api.ErrOver},
		{one(0), one(0), 0, api.Pat{}, api.ErrArg}, {one(0), one(0), 129, api.Pat{}, api.ErrArg}, {one(5), one(6), 0, api.Pat{}, api.ErrArg}, {one(5), one(6), -4, api.Pat{}, api.ErrArg},
	} {
		got, e := match.Masked(c.n, c.m, c.w)
		wantPat(t, fmt.Sprintf("Masked %v in %v of %d bits", c.n, c.m, c.w), got, e, c.want, c.e)
	}
}

// All numbers and masks of one bit more than the width: a number agrees with what is made just if it has the same bits in the mask.
func TestP11_1MaskedOfSmall(t *testing.T) {
	for w := 1; w <= 4; w++ {
		over := uint64(1) << w
		for n := range 2 * over {
			for m := range 2 * over {
				p, e := match.Masked(one(n), one(m), w)
				if n >= over || m >= over {
					wantPat(t, fmt.Sprintf("Masked %d in %d of %d bits", n, m, w), p, e, api.Pat{}, api.ErrOver)
					continue
				}
				wantPat(t, fmt.Sprintf("Masked %d in %d of %d bits", n, m, w), p, e, of(n&m, m), api.OK)
				for x := range over {
					if match.Agrees(p, one(x)) != (x&m == n&m) {
						t.Errorf("Masked %d in %d of %d bits is wrong of %d", n, m, w, x)
					}
				}
			}
		}
	}
}

func TestP11_1ErrorsOfWidths(t *testing.T) {
	numbers := []api.Num{one(0), one(1), two(1, 0), two(half, half)}
	for _, w := range noWidths() {
		for _, n := range numbers {
			exact, e := match.Exact(n, w)
			wantPat(t, fmt.Sprintf("Exact of %d bits", w), exact, e, api.Pat{}, api.ErrArg)
			for _, length := range []int{math.MinInt, -1, 0, 1, w, math.MaxInt} {
				prefix, e := match.Prefix(n, length, w)
				wantPat(t, fmt.Sprintf("Prefix of %d of %d bits", length, w), prefix, e, api.Pat{}, api.ErrArg)
			}
			for _, m := range numbers {
				masked, e := match.Masked(n, m, w)
				wantPat(t, fmt.Sprintf("Masked of %d bits", w), masked, e, api.Pat{}, api.ErrArg)
			}
		}
	}
}

// Of each width the greatest number fits, and the next one does not.
func TestP11_1ErrorsOfNumbers(t *testing.T) {
	for w := 1; w <= 128; w++ {
		most := num.Mask(w)
		for _, call := range []func(n api.Num) (api.Pat, api.Errno){
			func(n api.Num) (api.Pat, api.Errno) { return match.Exact(n, w) },
			func(n api.Num) (api.Pat, api.Errno) { return match.Prefix(n, 0, w) },
			func(n api.Num) (api.Pat, api.Errno) { return match.Prefix(n, w, w) },
			func(n api.Num) (api.Pat, api.Errno) { return match.Masked(n, one(1), w) },
			func(n api.Num) (api.Pat, api.Errno) { return match.Masked(one(1), n, w) },
		} {
			if p, e := call(most); e != api.OK || !match.May(p, w) {
				t.Errorf("of the greatest number of %d bits it is %v, %d", w, p, e)
			}
			if w < 128 {
				p, e := call(num.Add(most, one(1), 128))
				wantPat(t, fmt.Sprintf("of one more than %d bits it", w), p, e, api.Pat{}, api.ErrOver)
			}
		}
		for _, length := range []int{-1, w + 1} {
			p, e := match.Prefix(most, length, w)
			wantPat(t, fmt.Sprintf("Prefix of %d of %d bits", length, w), p, e, api.Pat{}, api.ErrOver)
		}
	}
}

// The chapter's examples, of 4 bits.
func TestP11_1Examples(t *testing.T) {
	prefix, e := match.Prefix(one(13), 2, 4)
	masked, f := match.Masked(one(5), one(6), 4)
	if e != api.OK || f != api.OK {
		t.Fatalf("errors %d, %d", e, f)
	}
	for _, c := range []struct {
		p    api.Pat
		want []int
	}{
		{prefix, []int{12, 13, 14, 15}},
		{masked, []int{4, 5, 12, 13}},
	} {
		var got []int
		for n := range 16 {
			if match.Agrees(c.p, one(uint64(n))) {
				got = append(got, n)
			}
		}
		if fmt.Sprint(got) != fmt.Sprint(c.want) {
			t.Errorf("with %v agree %v, not %v", c.p, got, c.want)
		}
	}
}
