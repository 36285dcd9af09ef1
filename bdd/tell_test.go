package bdd_test

import (
	"math"
	"math/rand"
	"slices"
	"testing"

	"quillon/api"
	"quillon/bdd"
	"quillon/sample"
)

func wantsLeast(t *testing.T, s *bdd.Store, a, vars int, want []bool) {
	t.Helper()
	got, is := s.Least(a, vars)
	if !is || !slices.Equal(got, want) {
		t.Errorf("Least of %d, %d is %v, %v, not %v", a, vars, got, is, want)
	}
}

func wantsNone(t *testing.T, s *bdd.Store, a, vars int) {
	t.Helper()
	if got, is := s.Least(a, vars); is || len(got) != 0 {
		t.Errorf("Least of %d, %d is %v, %v", a, vars, got, is)
	}
}

func TestP15_2Holds(t *testing.T) {
	s := store(t, 100)
	x, y := s.Var(1), s.Var(63)
	a := s.Ite(x, s.Not(y), y)
	for _, c := range []struct {
		a, many int
		on      []int
		is      bool
	}{
		{0, 64, []int{1}, false}, {1, 0, nil, true}, {1, 64, []int{5}, true},
		{x, 2, []int{1}, true}, {x, 2, []int{0}, false}, {x, 1, []int{0}, false}, {x, 0, nil, false}, {x, 64, []int{1, 2, 63}, true},
		{y, 64, []int{63}, true}, {y, 63, []int{62}, false}, {y, 64, []int{62}, false}, {y, 100, []int{63, 99}, true},
		{a, 0, nil, false}, {a, 2, []int{1}, true}, {a, 64, []int{1, 63}, false}, {a, 64, []int{63}, true}, {a, 63, []int{1}, true},
		{s.Not(a), 0, nil, true}, {s.Not(a), 2, []int{1}, false},
	} {
		bits := make([]bool, c.many)
		for _, v := range c.on {
			bits[v] = true
		}
		held := slices.Clone(bits)
		wants(t, "Holds", s.Holds(c.a, bits), c.is)
		wants(t, "the bits are as they were", slices.Equal(bits, held), true)
	}
	for _, none := range append([]int{s.Len() + 2}, odd...) {
		wants(t, "Holds of none", s.Holds(none, []bool{true, true}), false)
	}
}

func TestP15_2Least(t *testing.T) {
	s := store(t, 200)
	x, y, z := s.Var(0), s.Var(1), s.Var(2)
	wantsLeast(t, s, 1, 0, nil)
	wantsLeast(t, s, 1, 3, []bool{false, false, false})
	wantsNone(t, s, 0, 3)
	wantsNone(t, s, 0, 0)
	wantsLeast(t, s, x, 1, []bool{true})
	wantsLeast(t, s, y, 2, []bool{false, true})
	wantsLeast(t, s, y, 4, []bool{false, true, false, false})
	wantsNone(t, s, y, 1)
	wantsNone(t, s, y, 0)
	// The variable 0 goes ahead: of x without the others and the others without x the latter is less.
	wantsLeast(t, s, s.Xor(x, s.And(y, z)), 3, []bool{false, true, true})
	wantsLeast(t, s, s.Ite(x, s.Not(s.Or(y, z)), s.And(y, z)), 3, []bool{false, true, true})
	// With the bits of the first alone the others are false.
	wantsLeast(t, s, s.Or(s.And(y, z), x), 1, []bool{true})
	wantsLeast(t, s, s.Or(s.And(x, s.Not(z)), z), 2, []bool{true, false})
	wantsNone(t, s, s.And(x, z), 2)
	wantsLeast(t, s, s.Not(z), 2, []bool{false, false})
	wantsLeast(t, s, s.Not(z), 0, nil)
	// What was tried, and was not so, leaves no bit behind.
	wantsLeast(t, s, s.Or(s.And(s.Not(x), s.And(y, z)), x), 2, []bool{true, false})
	wantsLeast(t, s, s.And(x, s.Not(y)), 3, []bool{true, false, false})
	wantsLeast(t, s, s.Xor(x, s.Xor(y, z)), 3, []bool{false, false, true})
	wantsLeast(t, s, s.And(s.Or(x, y), s.Or(y, z)), 3, []bool{false, true, false})
	for _, none := range append([]int{s.Len() + 2}, odd...) {
		wantsNone(t, s, none, 3)
	}
}

func TestP15_2LeastOfSoManyBits(t *testing.T) {
	s := store(t, 200)
	last := s.Var(63)
	all := make([]bool, 64)
	for _, vars := range []int{-1, -64, math.MinInt, 0} {
		wantsLeast(t, s, 1, vars, nil)
		wantsLeast(t, s, s.Not(last), vars, nil)
		wantsNone(t, s, last, vars)
	}
	wantsLeast(t, s, 1, 63, all[:63])
	wantsNone(t, s, last, 63)
	for _, vars := range []int{64, 65, 128, 1 << 20, math.MaxInt} {
		wantsLeast(t, s, 1, vars, all)
		wantsLeast(t, s, last, vars, append(slices.Clone(all[:63]), true))
		wantsLeast(t, s, s.Var(0), vars, append([]bool{true}, all[:63]...))
	}
}

func TestP15_2LeastHasMemoryOfItsOwn(t *testing.T) {
	s := store(t, 10)
	x := s.Var(1)
	one, _ := s.Least(x, 3)
	one[0], one[1] = true, false
	wantsLeast(t, s, x, 3, []bool{false, true, false})
	wants(t, "Holds", s.Holds(x, []bool{false, true}), true)
}

func TestP15_2At(t *testing.T) {
	s := store(t, 100)
	x := s.Var(7)
	a := s.Ite(x, s.Var(63), s.Not(s.Var(8)))
	n, is := s.At(a)
	wants(t, "At", n, api.Branchy{Var: 7, Lo: 5, Hi: 3})
	wants(t, "is", is, true)
	n, _ = s.At(x)
	wants(t, "At of a variable", n, api.Branchy{Var: 7, Lo: 0, Hi: 1})
	for _, none := range append([]int{0, 1, s.Len() + 2, s.Len() + 3}, odd...) {
		n, is := s.At(none)
		wants(t, "At of none", n, api.Branchy{})
		wants(t, "is", is, false)
	}
	_, is = s.At(s.Len() + 1)
	wants(t, "the last one is", is, true)
}

func TestP15_2Size(t *testing.T) {
	s := store(t, 1000)
	x, y, z := s.Var(0), s.Var(1), s.Var(2)
	wants(t, "Size of 0", s.Size(0), 0)
	wants(t, "Size of 1", s.Size(1), 0)
	wants(t, "Size of a variable", s.Size(y), 1)
	wants(t, "Size of And", s.Size(s.And(x, s.And(y, z))), 3)
	// A node that both ways lead to counts once.
	wants(t, "Size of Xor", s.Size(s.Xor(x, s.Xor(y, z))), 5)
	wants(t, "Size of a choice", s.Size(s.Ite(x, y, z)), 3)
	wants(t, "Size of one beside", s.Size(s.Ite(x, z, s.And(y, z))), 3)
	for _, none := range append([]int{s.Len() + 2}, odd...) {
		wants(t, "Size of none", s.Size(none), 0)
	}
	wants(t, "Size of all variables' parity", s.Size(sample.Parity(s, 0, 64)), 127)
}

func TestP15_2LenAndFull(t *testing.T) {
	s := store(t, 2)
	wants(t, "Len", s.Len(), 0)
	s.Var(0)
	wants(t, "Len of one", s.Len(), 1)
	s.Var(0)
	wants(t, "Len of one again", s.Len(), 1)
	s.Var(1)
	wants(t, "Len of two", s.Len(), 2)
	wants(t, "Full of as many as the cap", s.Full(), false)
	s.Var(2)
	wants(t, "Len of a full one", s.Len(), 2)
	wants(t, "Full", s.Full(), true)
}

// Ways to a node may be more than can be gone: each node is gone through once.
func TestP15_2ManyWays(t *testing.T) {
	s := store(t, 4000)
	odd := sample.Parity(s, 0, 64)
	wantsLeast(t, s, odd, 64, append(make([]bool, 63), true))
	wants(t, "Holds", s.Holds(odd, []bool{true, true, true}), true)
	wants(t, "Under", s.Under(s.Under(odd, 63, true), 63, false), s.Not(sample.Parity(s, 0, 63)))
	// Of those of the first 63 alone none is so.
	wantsNone(t, s, s.And(sample.Parity(s, 0, 63), s.Var(63)), 63)
	wantsLeast(t, s, s.And(sample.Parity(s, 0, 63), s.Var(63)), 64, append(make([]bool, 62), true, true))
	wants(t, "Xor of both", s.Xor(s.Not(odd), odd), 1)
	wants(t, "And of both", s.And(odd, s.Not(odd)), 0)
	r := rand.New(rand.NewSource(15))
	for range 200 {
		bits := someBits(r, 64)
		wants(t, "Holds", s.Holds(odd, bits), isOdd(bits))
	}
}
