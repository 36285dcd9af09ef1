package types_test

import (
	"testing"

	"quillon/api"
	"quillon/num"
	"quillon/types"
)

func TestP8_1Lit(t *testing.T) {
	want := func(l api.Lit, w int, want api.Errno) {
		t.Helper()
		if got := types.Lit(l, w); got != want {
			t.Errorf("Lit %v to %d is %d, want %d", l, w, got, want)
		}
	}
	for w := 1; w <= 128; w++ {
		for _, n := range []api.Num{num.Of(0), num.Of(1), power(w-1, 0), power(w, 1), num.Mask(w)} {
			want(api.Lit{N: n}, w, api.OK)
			want(api.Lit{W: w, N: n}, w, api.OK)
			want(api.Lit{W: w, N: n}, w+1, api.ErrWidth)
			want(api.Lit{W: w, N: n}, w-1, api.ErrWidth)
			want(api.Lit{W: w, N: n}, 0, api.ErrWidth)
			want(api.Lit{W: w, N: n}, -w, api.ErrWidth)
			for v := 1; v <= 128; v++ {
				if needs(n) <= v {
					want(api.Lit{N: n}, v, api.OK)
				} else {
					want(api.Lit{N: n}, v, api.ErrOver)
				}
				if v != w {
					want(api.Lit{W: w, N: n}, v, api.ErrWidth)
				}
			}
		}
		if w < 128 {
			want(api.Lit{N: power(w, 0)}, w, api.ErrOver)
			want(api.Lit{N: num.Mask(128)}, w, api.ErrOver)
			want(api.Lit{N: api.Num{Hi: 1 << 63}}, w, api.ErrOver)
		}
	}
	// Widths that nothing has.
	for _, w := range []int{0, -1, -128} {
		want(api.Lit{N: num.Of(1)}, w, api.ErrOver)
	}
	for _, w := range []int{129, 1 << 20} {
		want(api.Lit{N: num.Mask(128)}, w, api.OK)
	}
}

func TestP8_1Goes(t *testing.T) {
	p := wholeTree(t)
	for _, x := range []struct {
		text string
		w    int
		e    api.Errno
	}{
		{"h.f", 8, api.OK}, {"h.f", 9, api.ErrWidth}, {"h.f", 7, api.ErrWidth}, {"h.f", 0, api.ErrWidth}, {"h.f", -8, api.ErrWidth}, {"h.f", 128, api.ErrWidth},
		{"8w0", 8, api.OK}, {"8w0", 1, api.ErrWidth}, {"8w255", 16, api.ErrWidth}, {"i.w", 128, api.OK}, {"i.w", 129, api.ErrWidth},
		{"port + 511", 9, api.OK}, {"port + 511", 10, api.ErrWidth}, {"port + 512", 9, api.ErrOver}, {"port + 512", 10, api.ErrOver},
		{"255", 8, api.OK}, {"256", 8, api.ErrOver}, {"~255", 8, api.OK}, {"-256", 8, api.ErrOver}, {"-~256", 9, api.OK}, {"~-512", 9, api.ErrOver}, {"1", 1, api.OK}, {"-2", 1, api.ErrOver},
		{"340282366920938463463374607431768211455", 128, api.OK}, {"340282366920938463463374607431768211455", 127, api.ErrOver}, {"5", 0, api.ErrOver}, {"5", -1, api.ErrOver}, {"5", 200, api.OK},
		{"isValid(h)", 1, api.ErrKind}, {"isValid(h)", 8, api.ErrKind}, {"port == 1", 1, api.ErrKind}, {"!isValid(h)", 0, api.ErrKind},
		{"x", 9, api.OK}, {"x", 8, api.ErrWidth}, {"z", 9, api.ErrNone}, {"1 == 2", 1, api.ErrWidth}, {"!port", 1, api.ErrKind}, {"h.f[8:0]", 9, api.ErrOver}, {"5 ++ 5", 6, api.ErrWidth},
	} {
		wantGoes(t, p, 0, expr(t, x.text), x.w, x.e)
	}
	wantGoes(t, p, 1, param("x"), 1, api.OK)
	wantGoes(t, p, 1, param("x"), 9, api.ErrWidth)
	wantGoes(t, p, -1, param("x"), 9, api.ErrNone)
	wantGoes(t, p, 9, param("x"), 9, api.ErrNone)
}

func TestP8_1GoesEachToEachWidth(t *testing.T) {
	p := wholeTree(t)
	met := map[api.Errno]int{}
	for _, action := range []int{-1, 0, 1} {
		o := oracleOf(p, action)
		for _, e := range operands() {
			s, err := o.sort(e)
			for w := 1; w <= 128; w++ {
				want := err
				if err == api.OK {
					want = s.to(w)
				}
				wantGoes(t, p, action, e, w, want)
				met[want]++
			}
		}
	}
	for _, e := range []api.Errno{api.OK, api.ErrNone, api.ErrKind, api.ErrWidth, api.ErrOver} {
		if met[e] < 100 {
			t.Errorf("%d was met %d times", e, met[e])
		}
	}
}
