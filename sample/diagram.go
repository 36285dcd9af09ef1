package sample

import (
	"math"

	"quillon/api"
	"quillon/bdd"
)

// NoDiagrams are numbers that are no diagrams of small stores, nor variables.
func NoDiagrams() []int {
	return []int{-1, -2, math.MinInt, math.MinInt + 3, math.MaxInt, 1 << 20, 1<<20 + 2, 1 << 31, 1<<32 + 1, 1<<32 + 2, -1 << 32, 2 - 1<<32}
}

// Settings are all bits of these variables, each with all others false.
func Settings(vars ...int) [][]bool {
	var all [][]bool
	for n := range 1 << len(vars) {
		bits := make([]bool, api.MaxVars)
		for i, v := range vars {
			bits[v] = n>>i&1 == 1
		}
		all = append(all, bits)
	}
	return all
}

// Parity is whether an odd number of these variables is true.
func Parity(s *bdd.Store, first, behind int) int {
	a := 0
	for v := behind - 1; v >= first; v-- {
		a = s.Xor(s.Var(v), a)
	}
	return a
}

// Diagrams are false and true, these variables, and so many made of those by chance.
func Diagrams(s *bdd.Store, intn func(n int) int, many int, vars ...int) []int {
	l := []int{0, 1}
	for _, v := range vars {
		l = append(l, s.Var(v))
	}
	one := func() int { return l[intn(len(l))] }
	for range many {
		made := s.Ite(one(), one(), one())
		if intn(3) == 0 {
			made = s.Xor(made, one())
		}
		l = append(l, made)
	}
	return l
}
