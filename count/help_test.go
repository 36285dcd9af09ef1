package count_test

import (
	"math"
	"math/big"
	"math/rand"
	"testing"

	"quillon/api"
	"quillon/bdd"
	"quillon/count"
)

func made(t *testing.T, limit int) *bdd.Store {
	t.Helper()
	s, e := bdd.New(limit)
	if e != api.OK {
		t.Fatal("New", limit, e)
	}
	return s
}

func wantsCount(t *testing.T, s *bdd.Store, a, n int, want *big.Int) {
	t.Helper()
	if got := whole(count.Count(s, a, n)); got.Cmp(want) != 0 {
		t.Errorf("Count of %d over %d is %v, not %v", a, n, got, want)
	}
}

func wantsShare(t *testing.T, s *bdd.Store, a int, want float64) {
	t.Helper()
	if got := count.Share(s, a); !same(got, want) {
		t.Errorf("Share of %d is %v, not %v", a, got, want)
	}
}

// same tells -0 from 0, and no NaN from another one.
func same(x, y float64) bool {
	return math.Float64bits(x) == math.Float64bits(y) || math.IsNaN(x) && math.IsNaN(y)
}

func whole(n api.Num) *big.Int {
	hi := new(big.Int).SetUint64(n.Hi)
	return hi.Add(hi.Lsh(hi, 64), new(big.Int).SetUint64(n.Lo))
}

// power is 2^n; 0 of an n below 0.
func power(n int) *big.Int {
	if n < 0 {
		return new(big.Int)
	}
	return new(big.Int).Lsh(big.NewInt(1), uint(n))
}

// below is that the bits of n variables from the first one on, that one's the highest, are a number less than k.
func below(s *bdd.Store, k uint64, first, n int) int {
	a := 0
	for i := range n {
		v := s.Var(first + n - 1 - i)
		if k>>i&1 == 1 {
			a = s.Ite(v, a, 1)
		} else {
			a = s.Ite(v, 0, a)
		}
	}
	return a
}

// tableOf is a diagram that has such truths under the bits of n variables from the first one on, that one's the highest.
func tableOf(s *bdd.Store, truths []bool, first int) int {
	if len(truths) == 1 {
		if truths[0] {
			return 1
		}
		return 0
	}
	half := len(truths) / 2
	lo := tableOf(s, truths[:half], first+1)
	return s.Ite(s.Var(first), tableOf(s, truths[half:], first+1), lo)
}

// anyFloat is one of any size, often of few bits, or near another one.
func anyFloat(r *rand.Rand) float64 {
	switch r.Intn(6) {
	case 0:
		return math.Float64frombits(r.Uint64())
	case 1:
		return r.NormFloat64()
	case 2:
		return float64(r.Intn(40)-20) / float64(int(1)<<r.Intn(8))
	case 3:
		return edges[r.Intn(len(edges))]
	case 4:
		return math.Float64frombits(r.Uint64() &^ (2047 << 52)) // a subnormal one
	}
	return math.Nextafter(float64(r.Intn(9)-4), r.NormFloat64())
}

// edges are floats in their order, with no NaN.
var edges = []float64{
	math.Inf(-1), -math.MaxFloat64, -1e300, -2, -1.5, math.Nextafter(-1, -2), -1, math.Nextafter(-1, 0), -0.5, -0x1p-64, -0x1p-1022,
	-0x1p-1023, -math.SmallestNonzeroFloat64, math.Copysign(0, -1), 0, math.SmallestNonzeroFloat64, 0x1p-1023, 0x1p-1022, 0x1p-64,
	0.1, 0.5, math.Nextafter(1, 0), 1, math.Nextafter(1, 2), 1.5, 2, 1e300, math.MaxFloat64, math.Inf(1),
}

// noNumbers are NaNs of both signs, quiet and not.
var noNumbers = []float64{
	math.NaN(), math.Copysign(math.NaN(), -1), math.Float64frombits(0x7ff0000000000001), math.Float64frombits(0xfff0000000000001),
	math.Float64frombits(0x7fffffffffffffff), math.Float64frombits(0xffffffffffffffff), math.Inf(1) - math.Inf(1),
}
