package count_test

import (
	"math"
	"math/big"
	"math/rand"
	"testing"

	"quillon/count"
)

func TestP16_2Quotient(t *testing.T) {
	inf, nan, least := math.Inf(1), math.NaN(), math.SmallestNonzeroFloat64
	minus := math.Copysign(0, -1)
	for _, c := range []struct{ x, y, want float64 }{
		{1, 2, 0.5}, {1, 4, 0.25}, {0.25, 0.5, 0.5}, {3, 1, 3}, {1, 3, 0x1.5555555555555p-2}, {2, 3, 0x1.5555555555555p-1}, {-1, 8, -0.125},
		{0, 0, nan}, {0, minus, nan}, {minus, 0, nan}, {minus, minus, nan},
		{inf, inf, nan}, {inf, -inf, nan}, {-inf, inf, nan}, {-inf, -inf, nan},
		{nan, 1, nan}, {1, nan, nan}, {nan, 0, nan}, {0, nan, nan}, {nan, inf, nan}, {inf, nan, nan}, {nan, nan, nan},
		{1, 0, inf}, {1, minus, -inf}, {-1, 0, -inf}, {-1, minus, inf}, {least, 0, inf}, {-least, 0, -inf},
		{inf, 0, inf}, {inf, minus, -inf}, {-inf, 0, -inf}, {-inf, minus, inf},
		{0, 1, 0}, {minus, 1, minus}, {0, -1, minus}, {minus, -1, 0}, {0, inf, 0}, {0, -inf, minus},
		{1, inf, 0}, {-1, inf, minus}, {1, -inf, minus}, {math.MaxFloat64, inf, 0},
		{inf, 2, inf}, {-inf, 2, -inf}, {inf, -2, -inf}, {-inf, -2, inf},
		{math.MaxFloat64, 0.5, inf}, {math.MaxFloat64, -0.5, -inf}, {1, least, inf},
		{least, 2, 0}, {-least, 2, minus}, {least, 1.5, least}, {3 * least, 2, 2 * least}, {least, math.MaxFloat64, 0},
		{0x1p-1022, 2, 0x1p-1023}, {math.MaxFloat64, math.MaxFloat64, 1}, {least, least, 1},
	} {
		if got := count.Quotient(c.x, c.y); !same(got, c.want) {
			t.Errorf("%v over %v is %v, not %v", c.x, c.y, got, c.want)
		}
	}
}

// Held against fractions of whole numbers, rounded once.
func TestP16_2QuotientByChance(t *testing.T) {
	r := rand.New(rand.NewSource(167))
	many := 0
	for range 30000 {
		x, y := anyFloat(r), anyFloat(r)
		one, other := new(big.Rat).SetFloat64(x), new(big.Rat).SetFloat64(y)
		if one == nil || other == nil || x == 0 || y == 0 {
			continue
		}
		many++
		want, _ := one.Quo(one, other).Float64()
		if math.Signbit(x) != math.Signbit(y) {
			want = math.Copysign(want, -1)
		}
		if got := count.Quotient(x, y); !same(got, want) {
			t.Errorf("%v over %v is %v, not %v", x, y, got, want)
		}
	}
	if many < 10000 {
		t.Error("so few are there:", many)
	}
}

func TestP16_2Order(t *testing.T) {
	for i, x := range edges {
		for j, y := range edges {
			wantsOrder(t, x, y, sign(i-j))
		}
		for _, nan := range noNumbers {
			wantsOrder(t, x, nan, -1)
			wantsOrder(t, nan, x, 1)
		}
	}
	for _, x := range noNumbers {
		for _, y := range noNumbers {
			wantsOrder(t, x, y, 0)
		}
	}
}

func wantsOrder(t *testing.T, x, y float64, want int) {
	t.Helper()
	if got := count.Order(x, y); got != want {
		t.Errorf("Order of %v and %v is %d, not %d", x, y, got, want)
	}
}

func sign(n int) int { return min(max(n, -1), 1) }

// Held against bits read as whole numbers: those of a negative one turned.
func TestP16_2OrderByChance(t *testing.T) {
	r := rand.New(rand.NewSource(168))
	for range 100000 {
		x, y := anyFloat(r), anyFloat(r)
		i, j := rank(x), rank(y)
		want := 0
		switch {
		case i < j:
			want = -1
		case i > j:
			want = 1
		}
		wantsOrder(t, x, y, want)
		wantsOrder(t, y, x, -want)
	}
}

func rank(x float64) uint64 {
	bits := math.Float64bits(x)
	switch {
	case math.IsNaN(x):
		return math.MaxUint64
	case bits>>63 == 1:
		return ^bits
	}
	return bits | 1<<63
}
