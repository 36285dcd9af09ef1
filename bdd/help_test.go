package bdd_test

import (
	"math"
	"math/rand"
	"slices"
	"testing"

	"quillon/api"
	"quillon/bdd"
)

// store is a store of that cap.
func store(t *testing.T, limit int) *bdd.Store {
	t.Helper()
	s, e := bdd.New(limit)
	if e != api.OK || s == nil {
		t.Fatalf("New(%d) is %v, %v", limit, s, e)
	}
	return s
}

// wants fails, unless it is so.
func wants[T comparable](t *testing.T, what string, got, want T) {
	t.Helper()
	if got != want {
		t.Errorf("%s is %v, not %v", what, got, want)
	}
}

// rows are all nodes that a store has, in their order.
func rows(t *testing.T, s *bdd.Store) []api.Branchy {
	t.Helper()
	var all []api.Branchy
	for a := 2; ; a++ {
		n, is := s.At(a)
		if !is {
			break
		}
		all = append(all, n)
	}
	wants(t, "Len", s.Len(), len(all))
	return all
}

func wantsRows(t *testing.T, s *bdd.Store, want ...api.Branchy) {
	t.Helper()
	if got := rows(t, s); !slices.Equal(got, want) {
		t.Errorf("its nodes are %v, not %v", got, want)
	}
}

// odd are numbers that are no diagram, or no variable, of small stores.
var odd = []int{-1, -2, math.MinInt, math.MinInt + 3, math.MaxInt, 1 << 20, 1<<20 + 2, 1 << 31, 1<<32 + 1, 1<<32 + 2, -1 << 32, 2 - 1<<32}

// bitsOf are 64 bits, the variable 0's the highest one of so many.
func bitsOf(setting uint64, vars int) []bool {
	bits := make([]bool, vars)
	for v := range bits {
		bits[v] = setting>>(vars-1-v)&1 == 1
	}
	return bits
}

// someBits are so many bits made by chance.
func someBits(r *rand.Rand, many int) []bool {
	bits := make([]bool, many)
	for v := range bits {
		bits[v] = r.Intn(2) == 1
	}
	return bits
}

// parity is whether an odd number of these variables is true.
func parity(s *bdd.Store, first, behind int) int {
	a := 0
	for v := behind - 1; v >= first; v-- {
		a = s.Xor(s.Var(v), a)
	}
	return a
}

func isOdd(bits []bool) bool {
	is := false
	for _, on := range bits {
		is = is != on
	}
	return is
}
