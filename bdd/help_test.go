package bdd_test

import (
	"math/rand"
	"slices"
	"testing"

	"quillon/api"
	"quillon/bdd"
	"quillon/sample"
)

// store is a store of that cap.
func store(t *testing.T, limit int) *bdd.Store {
	t.Helper()
	s, e := bdd.New(limit)
	if e != api.OK || s == nil {
		t.Fatalf("New(%d) is %v, %v", limit, s, e)
	}
	return s
}

// wants fails, unless it is so.
func wants[T comparable](t *testing.T, what string, got, want T) {
	t.Helper()
	if got != want {
		t.Errorf("%s is %v, not %v", what, got, want)
	}
}

// rows are all nodes that a store has, in their order.
func rows(t *testing.T, s *bdd.Store) []api.Branchy {
	t.Helper()
	var all []api.Branchy
	for a := 2; ; a++ {
		n, is := s.At(a)
		if !is {
			break
		}
		all = append(all, n)
	}
	wants(t, "Len", s.Len(), len(all))
	return all
}

func wantsRows(t *testing.T, s *bdd.Store, want ...api.Branchy) {
	t.Helper()
	if got := rows(t, s); !slices.Equal(got, want) {
		t.Errorf("its nodes are %v, not %v", got, want)
	}
}

// odd are numbers that are no diagram, or no variable, of small stores.
var odd = sample.NoDiagrams()

// bitsOf are 64 bits, the variable 0's the highest one of so many.
func bitsOf(setting uint64, vars int) []bool {
	bits := make([]bool, vars)
	for v := range bits {
		bits[v] = setting>>(vars-1-v)&1 == 1
	}
	return bits
}

// someBits are so many bits made by chance.
func someBits(r *rand.Rand, many int) []bool {
	bits := make([]bool, many)
	for v := range bits {
		bits[v] = r.Intn(2) == 1
	}
	return bits
}

func isOdd(bits []bool) bool {
	is := false
	for _, on := range bits {
		is = is != on
	}
	return is
}
