package count_test

import (
	"math"
	"math/big"
	"math/rand"
	"testing"

	"quillon/api"
	"quillon/bdd"
	"quillon/count"
	"quillon/num"
	"quillon/sample"
)

func TestP16_1Examples(t *testing.T) {
	s := made(t, 10)
	y := s.Var(1)
	both := s.And(s.Var(0), y)
	wantsCount(t, s, y, 3, big.NewInt(4))
	wantsShare(t, s, y, 0.5)
	wantsCount(t, s, both, 3, big.NewInt(2))
	wantsShare(t, s, both, 0.25)
}

func TestP16_1CountOfTruths(t *testing.T) {
	s := made(t, 2)
	for n := range 65 {
		wantsCount(t, s, 0, n, new(big.Int))
		wantsCount(t, s, 1, n, power(n))
	}
	if got := count.Count(s, 1, 64); got != (api.Num{Hi: 1}) {
		t.Error("all settings of 64 bits are", got)
	}
}

// The bits from n on are false.
func TestP16_1CountOfVariables(t *testing.T) {
	s := made(t, 200)
	for v := range 64 {
		a := s.Var(v)
		not := s.Not(a)
		for n := range 65 {
			if v < n {
				wantsCount(t, s, a, n, power(n-1))
				wantsCount(t, s, not, n, power(n-1))
			} else {
				wantsCount(t, s, a, n, new(big.Int))
				wantsCount(t, s, not, n, power(n))
			}
		}
		wantsShare(t, s, a, 0.5)
		wantsShare(t, s, not, 0.5)
	}
}

func TestP16_1CountIsHeld(t *testing.T) {
	s := made(t, 20)
	x, last := s.Var(0), s.Var(63)
	either, neither := s.Or(x, last), s.Not(s.Or(x, last))
	for _, n := range []int{0, -1, -64, math.MinInt, math.MinInt + 1} {
		wantsCount(t, s, 0, n, new(big.Int))
		wantsCount(t, s, 1, n, big.NewInt(1))
		wantsCount(t, s, either, n, new(big.Int))
		wantsCount(t, s, neither, n, big.NewInt(1))
	}
	for _, n := range []int{64, 65, 127, 128, 129, 1 << 32, math.MaxInt} {
		wantsCount(t, s, 1, n, power(64))
		wantsCount(t, s, x, n, power(63))
		wantsCount(t, s, either, n, new(big.Int).Sub(power(64), power(62)))
		wantsCount(t, s, neither, n, power(62))
	}
	wantsCount(t, s, either, 63, power(62))
	wantsCount(t, s, neither, 63, power(62))
}

func TestP16_1OfNoDiagram(t *testing.T) {
	s := made(t, 20)
	s.Or(s.Var(3), s.Var(5))
	none := append([]int{s.Len() + 2, s.Len() + 3}, sample.NoDiagrams()...)
	for _, a := range none {
		for _, n := range []int{-1, 0, 1, 6, 64, 99} {
			wantsCount(t, s, a, n, new(big.Int))
		}
		wantsShare(t, s, a, 0)
	}
	for _, no := range []*bdd.Store{nil, {}} {
		for _, a := range append([]int{0, 1, 2, 3}, none...) {
			for _, n := range []int{math.MinInt, 0, 1, 64, math.MaxInt} {
				wantsCount(t, no, a, n, new(big.Int))
			}
			wantsShare(t, no, a, 0)
		}
	}
}

// What a full store has is counted, and nothing is made for it.
func TestP16_1MakesNothing(t *testing.T) {
	s := made(t, 4)
	z, both := s.Var(2), s.And(s.Var(0), s.Var(1))
	if s.Or(z, both) != 0 || !s.Full() {
		t.Fatal("there is room")
	}
	wantsCount(t, s, both, 3, big.NewInt(2))
	wantsShare(t, s, both, 0.25)
	wantsCount(t, s, 1, 3, big.NewInt(8))
	wantsShare(t, s, 1, 1)

	s = made(t, 5)
	a := s.Xor(s.Var(0), s.Var(1))
	s.Var(5)
	for range 2 {
		wantsCount(t, s, a, 0, new(big.Int))
		wantsCount(t, s, a, 1, big.NewInt(1))
		wantsCount(t, s, a, 64, power(63))
		wantsShare(t, s, a, 0.5)
		if s.Len() != 5 || s.Full() {
			t.Error("there are", s.Len(), s.Full())
		}
	}
}

// No bit of a count is lost.
func TestP16_1CountsOf64Bits(t *testing.T) {
	r := rand.New(rand.NewSource(161))
	ks := []uint64{0, 1, 2, 3, 1 << 31, 1<<53 - 1, 1<<53 + 1, 1 << 63, 1<<63 - 1, 1<<63 + 1, math.MaxUint64, math.MaxUint64 - 1}
	for range 300 {
		ks = append(ks, r.Uint64()>>r.Intn(64))
	}
	for _, k := range ks {
		s := made(t, 400)
		a := below(s, k, 0, 64)
		if got := count.Count(s, a, 64); got != num.Of(k) {
			t.Errorf("%v are below %d", got, k)
		}
		rest := new(big.Int).Sub(power(64), new(big.Int).SetUint64(k))
		wantsCount(t, s, s.Not(a), 64, rest)
		// The lowest bit is false without its variable: half of them, rounded up.
		wantsCount(t, s, a, 63, new(big.Int).SetUint64(k/2+k%2))
	}
}

// spread are the variables of diagrams made by chance.
var spread = []int{0, 1, 3, 7, 8, 31, 62, 63}

// plainCount goes through all settings of the spread variables.
func plainCount(s *bdd.Store, a, n int, settings [][]bool) *big.Int {
	free := n
	for _, v := range spread {
		if v < n {
			free--
		}
	}
	many := int64(0)
	for _, bits := range settings {
		if s.Holds(a, bits) && !anyFrom(bits, n) {
			many++
		}
	}
	return new(big.Int).Mul(big.NewInt(many), power(free))
}

func anyFrom(bits []bool, n int) bool {
	for _, on := range bits[n:] {
		if on {
			return true
		}
	}
	return false
}

func TestP16_1Chance(t *testing.T) {
	r := rand.New(rand.NewSource(162))
	settings := sample.Settings(spread...)
	for range 60 {
		s := made(t, 50+r.Intn(2000))
		for _, a := range sample.Diagrams(s, r.Intn, 12, spread...) {
			for _, n := range []int{0, 1, 2, 4, 7, 8, 9, 31, 32, 62, 63, 64, r.Intn(65)} {
				wantsCount(t, s, a, n, plainCount(s, a, n, settings))
			}
			// So few bits are no more than a float64 holds.
			all := new(big.Float).SetInt(plainCount(s, a, 64, settings))
			share, _ := all.SetMantExp(all, -64).Float64()
			wantsShare(t, s, a, share)
		}
	}
}

// Counts of two that have nothing in common are that of Or of them together; those of a diagram and of Not of it are all.
func TestP16_1CountsTogether(t *testing.T) {
	r := rand.New(rand.NewSource(163))
	for range 100 {
		s := made(t, 5000)
		l := sample.Diagrams(s, r.Intn, 20, spread...)
		for _, a := range l {
			b := l[r.Intn(len(l))]
			n := r.Intn(65)
			both, one, other := s.And(a, b), s.And(a, s.Not(b)), s.And(b, s.Not(a))
			wantsCount(t, s, a, n, new(big.Int).Add(whole(count.Count(s, both, n)), whole(count.Count(s, one, n))))
			wantsCount(t, s, s.Or(one, other), n, new(big.Int).Add(whole(count.Count(s, one, n)), whole(count.Count(s, other, n))))
			wantsCount(t, s, s.Not(a), n, new(big.Int).Sub(power(n), whole(count.Count(s, a, n))))
		}
		if s.Full() {
			t.Fatal("a full store")
		}
	}
}

// Ways to a node may be more than can be gone: each node is reckoned once.
func TestP16_1ManyWays(t *testing.T) {
	s := made(t, 4000)
	odd := sample.Parity(s, 0, 64)
	for n := range 65 {
		wantsCount(t, s, odd, n, power(n-1))
		wantsCount(t, s, s.Not(odd), n, new(big.Int).Sub(power(n), power(n-1)))
	}
	wantsShare(t, s, odd, 0.5)
	wantsShare(t, s, s.And(odd, s.Var(0)), 0.25)
}

// A store of very many nodes.
func TestP16_1ManyNodes(t *testing.T) {
	r := rand.New(rand.NewSource(164))
	s := made(t, api.MaxNodes)
	truths := make([]bool, 1<<20)
	many := int64(0)
	for i := range truths {
		if truths[i] = r.Intn(3) == 0; truths[i] {
			many++
		}
	}
	a := tableOf(s, truths, 40)
	if s.Full() || s.Size(a) < 1<<16 {
		t.Fatal("it has so many nodes:", s.Size(a))
	}
	wantsCount(t, s, a, 60, new(big.Int).Lsh(big.NewInt(many), 40))
	wantsCount(t, s, a, 64, new(big.Int).Lsh(big.NewInt(many), 44))
	wantsShare(t, s, a, float64(many)/(1<<20))
}
