package count_test

import (
	"math/big"
	"math/rand"
	"testing"

	"quillon/bdd"
	"quillon/count"
	"quillon/sample"
)

func TestP16_1ShareOfTruths(t *testing.T) {
	s := made(t, 2)
	wantsShare(t, s, 0, 0)
	wantsShare(t, s, 1, 1)
}

// Of settings of all variables alone the share is the least one that is not 0.
func TestP16_1ShareOfFew(t *testing.T) {
	s := made(t, 200)
	a := below(s, 1, 0, 64)
	wantsShare(t, s, a, 0x1p-64)
	wantsCount(t, s, a, 64, big.NewInt(1))
	wantsShare(t, s, s.Not(a), 1)
	for n := 1; n <= 53; n++ {
		first := below(s, 1, 64-n, n)
		half := 1.0
		for range n {
			half /= 2
		}
		wantsShare(t, s, first, half)
		wantsShare(t, s, s.Not(first), 1-half)
		if s.Full() {
			s = made(t, 200)
		}
	}
}

// stepped is a share with each step in numbers of 53 bits, by no map.
func stepped(s *bdd.Store, a int) *big.Float {
	share := new(big.Float).SetPrec(53).SetMode(big.ToNearestEven)
	n, is := s.At(a)
	if !is {
		return share.SetInt64(int64(a))
	}
	share.Add(stepped(s, n.Lo), stepped(s, n.Hi))
	return share.Quo(share, big.NewFloat(2))
}

// Each step is rounded: not what the count is of all.
func TestP16_1ShareIsRoundedByStep(t *testing.T) {
	r := rand.New(rand.NewSource(165))
	other := 0
	for range 3000 {
		s := made(t, 400)
		k := r.Uint64()
		a := below(s, k, 0, 64)
		want, _ := stepped(s, a).Float64()
		wantsShare(t, s, a, want)
		wantsShare(t, s, s.Not(a), first(stepped(s, s.Not(a)).Float64()))
		if want != float64(k)/0x1p64 {
			other++
		}
	}
	if other == 0 {
		t.Error("no share tells how it was rounded")
	}
}

func first(x float64, _ big.Accuracy) float64 { return x }

// What lies between two goes to the nearest one, halves to the even one.
func TestP16_1ShareHalvesToEven(t *testing.T) {
	for _, c := range []struct {
		k    uint64
		want float64
	}{
		// A half behind the 53 bits that stay: it is cut off behind an even one, goes up behind an odd one.
		{1<<63 | 1<<10, 0.5},
		{1<<63 | 3<<10, 0x1p-1 + 0x1p-52},
		{1<<63 | 1<<11, 0x1p-1 + 0x1p-53},
		// Above the half it goes up; but of what a step cut off nothing is left to the next one, that lies at the half then.
		{1<<63 | 1<<10 | 1<<9, 0x1p-1 + 0x1p-53},
		{1<<63 | 1<<62 | 1<<10 | 1, 0x1p-1 + 0x1p-2},
		{1<<64 - 1, 1},
		{1<<64 - 1<<10, 1},
		{1<<64 - 1<<11, 1 - 0x1p-53},
	} {
		s := made(t, 400)
		wantsShare(t, s, below(s, c.k, 0, 64), c.want)
	}
}

// The shares of a diagram and of Not of it are 1 together, if their counts need no more than 53 bits.
func TestP16_1SharesTogether(t *testing.T) {
	r := rand.New(rand.NewSource(166))
	for range 500 {
		s := made(t, 1000)
		n := 1 + r.Intn(53)
		a := below(s, r.Uint64()>>(64-n), r.Intn(64-n+1), n)
		if x, y := count.Share(s, a), count.Share(s, s.Not(a)); x+y != 1 {
			t.Errorf("%v and %v are %v", x, y, x+y)
		}
	}
	for range 100 {
		s := made(t, 5000)
		for _, a := range sample.Diagrams(s, r.Intn, 20, spread...) {
			if x, y := count.Share(s, a), count.Share(s, s.Not(a)); x+y != 1 {
				t.Errorf("%v and %v are %v", x, y, x+y)
			}
		}
		if s.Full() {
			t.Fatal("a full store")
		}
	}
}
