package bdd_test

import (
	"math"
	"testing"

	"quillon/api"
	"quillon/bdd"
)

func TestP15_1New(t *testing.T) {
	for _, limit := range []int{math.MinInt, -1 << 20, -2, -1, 0, 1, 1<<20 + 1, 1 << 21, 1<<32 + 2, math.MaxInt} {
		if s, e := bdd.New(limit); s != nil || e != api.ErrArg {
			t.Errorf("New(%d) is %v, %v", limit, s, e)
		}
	}
	for _, limit := range []int{2, 3, 4, 1000, 1<<20 - 1, 1 << 20} {
		s := store(t, limit)
		wants(t, "Len", s.Len(), 0)
		wants(t, "Full", s.Full(), false)
		wantsRows(t, s)
	}
}

func TestP15_1Example(t *testing.T) {
	s := store(t, 3)
	wants(t, "Var 0", s.Var(0), 2)
	wants(t, "Var 1", s.Var(1), 3)
	wants(t, "And", s.And(2, 3), 4)
	wants(t, "Full", s.Full(), false)
	wants(t, "Or", s.Or(2, 3), 0)
	wants(t, "Full", s.Full(), true)
	wantsRows(t, s, api.Branchy{Var: 0, Lo: 0, Hi: 1}, api.Branchy{Var: 1, Lo: 0, Hi: 1}, api.Branchy{Var: 0, Lo: 0, Hi: 3})
}

func TestP15_1Var(t *testing.T) {
	s := store(t, 64)
	for i := range 64 {
		v := 63 - i
		wants(t, "Var", s.Var(v), i+2)
		wants(t, "Var again", s.Var(v), i+2)
		n, is := s.At(i + 2)
		wants(t, "its node", n, api.Branchy{Var: v, Lo: 0, Hi: 1})
		wants(t, "is", is, true)
	}
	for _, v := range []int{-1, 64, 65, math.MinInt, math.MaxInt, 1 << 32, 1<<32 + 1, -1 << 32, 256, 1 << 8} {
		wants(t, "Var of none", s.Var(v), 0)
	}
	wants(t, "Len", s.Len(), 64)
	wants(t, "Full", s.Full(), false)
}

func TestP15_1IteOfWhatEndsAtOnce(t *testing.T) {
	s := store(t, 3)
	x, y, z := s.Var(0), s.Var(1), s.Var(2)
	for _, c := range []struct {
		name       string
		c, a, b, n int
	}{
		{"of true", 1, x, y, x}, {"of true and two that are no nodes", 1, 0, 1, 0}, {"of two that are the same", z, x, x, x},
		{"of two 0", z, 0, 0, 0}, {"of two 1", z, 1, 1, 1}, {"of false", 0, x, y, y}, {"of false, 1, 0", 0, 1, 0, 0},
		{"of 1 and 0", y, 1, 0, y}, {"of true, 1, 0", 1, 1, 0, 1},
	} {
		wants(t, "Ite "+c.name, s.Ite(c.c, c.a, c.b), c.n)
	}
	wants(t, "Len", s.Len(), 3)
	wants(t, "Full", s.Full(), false)
}

func TestP15_1IteMakesLoFirst(t *testing.T) {
	s := store(t, 100)
	x, y, z := s.Var(0), s.Var(1), s.Var(2)
	v := s.Var(3)
	// Under y false it is Not of z, under y true Not of the variable 3: both are new, the former goes ahead.
	a := s.Ite(y, s.Not(v), s.Not(z))
	wants(t, "Ite", a, 8)
	wantsRows(t, s, api.Branchy{Var: 0, Hi: 1}, api.Branchy{Var: 1, Hi: 1}, api.Branchy{Var: 2, Hi: 1}, api.Branchy{Var: 3, Hi: 1},
		api.Branchy{Var: 3, Lo: 1}, api.Branchy{Var: 2, Lo: 1}, api.Branchy{Var: 1, Lo: 7, Hi: 6})
	// Of one call: x, then (z and 3) under false, (y and 3) under true.
	u := store(t, 100)
	x, y, z, v = u.Var(0), u.Var(1), u.Var(2), u.Var(3)
	wants(t, "Ite of three", u.And(v, u.Ite(x, y, z)), 9)
	wantsRows(t, u, api.Branchy{Var: 0, Hi: 1}, api.Branchy{Var: 1, Hi: 1}, api.Branchy{Var: 2, Hi: 1}, api.Branchy{Var: 3, Hi: 1},
		api.Branchy{Var: 0, Lo: z, Hi: y}, api.Branchy{Var: 2, Lo: 0, Hi: v}, api.Branchy{Var: 1, Lo: 0, Hi: v}, api.Branchy{Var: 0, Lo: 7, Hi: 8})
}

func TestP15_1WordsOfIte(t *testing.T) {
	s := store(t, 100)
	x, y := s.Var(4), s.Var(9)
	var all []int
	for _, c := range []struct {
		name string
		a    int
		rule func(x, y bool) bool
	}{
		{"x", x, func(x, y bool) bool { return x }},
		{"y", y, func(x, y bool) bool { return y }},
		{"Not x", s.Not(x), func(x, y bool) bool { return !x }},
		{"Not y", s.Not(y), func(x, y bool) bool { return !y }},
		{"And", s.And(x, y), func(x, y bool) bool { return x && y }},
		{"Or", s.Or(x, y), func(x, y bool) bool { return x || y }},
		{"Xor", s.Xor(x, y), func(x, y bool) bool { return x != y }},
		{"And of Not", s.And(s.Not(x), y), func(x, y bool) bool { return !x && y }},
		{"Or of Not", s.Or(s.Not(x), y), func(x, y bool) bool { return !x || y }},
		{"Not of Xor", s.Not(s.Xor(x, y)), func(x, y bool) bool { return x == y }},
		{"0", 0, func(x, y bool) bool { return false }},
		{"1", 1, func(x, y bool) bool { return true }},
		{"Not 0", s.Not(s.Not(1)), func(x, y bool) bool { return true }},
		{"And of x and Not x", s.And(x, s.Not(x)), func(x, y bool) bool { return false }},
		{"Or of x and Not x", s.Or(s.Not(x), x), func(x, y bool) bool { return true }},
	} {
		all = append(all, c.a)
		for setting := range 4 {
			bits := make([]bool, 10)
			bits[4], bits[9] = setting&1 == 1, setting&2 == 2
			wants(t, c.name, s.Holds(c.a, bits), c.rule(bits[4], bits[9]))
		}
	}
	wants(t, "And the other way round", s.And(y, x), all[4])
	wants(t, "Or the other way round", s.Or(y, x), all[5])
	wants(t, "Xor the other way round", s.Xor(y, x), all[6])
	wants(t, "Xor by And and Or", s.And(s.Or(x, y), s.Not(s.And(x, y))), all[6])
}

func TestP15_1XorMakesNotFirst(t *testing.T) {
	s := store(t, 100)
	x, y := s.Var(0), s.Var(1)
	wants(t, "Xor", s.Xor(y, x), 6)
	wantsRows(t, s, api.Branchy{Var: 0, Hi: 1}, api.Branchy{Var: 1, Hi: 1}, api.Branchy{Var: 0, Lo: 1}, api.Branchy{Var: 1, Lo: 1}, api.Branchy{Var: 0, Lo: 3, Hi: 5})
	// Not of the second one is made, and stays, also where nothing else needs it.
	u := store(t, 100)
	x = u.Var(0)
	wants(t, "Xor of 0", u.Xor(0, x), x)
	wantsRows(t, u, api.Branchy{Var: 0, Hi: 1}, api.Branchy{Var: 0, Lo: 1})
	wants(t, "Xor with 0", u.Xor(u.Var(1), 0), 4)
	wants(t, "Len", u.Len(), 3)
}

func TestP15_1Under(t *testing.T) {
	s := store(t, 100)
	x, y, z := s.Var(10), s.Var(20), s.Var(30)
	a := s.Ite(x, y, z)
	for _, c := range []struct {
		name string
		a, v int
		on   bool
		n    int
	}{
		{"its own variable", a, 10, true, y}, {"its own, false", a, 10, false, z},
		{"a greater one", a, 5, true, a}, {"between", a, 15, true, a}, {"behind all", a, 63, false, a},
		{"0", 0, 10, true, 0}, {"1", 1, 10, false, 1}, {"0 of none", 0, 64, true, 0}, {"1 of none", 1, 64, true, 1}, {"1 of none, false", 1, 64, false, 1},
		{"Lo's", a, 30, true, s.Or(s.Not(x), y)}, {"Lo's, false", a, 30, false, s.And(x, y)},
		{"Hi's", a, 20, true, s.Or(x, z)}, {"Hi's, false", a, 20, false, s.And(s.Not(x), z)},
		{"a variable itself", y, 20, true, 1}, {"a variable itself, false", y, 20, false, 0},
	} {
		wants(t, "Under of "+c.name, s.Under(c.a, c.v, c.on), c.n)
	}
	for _, v := range append([]int{64, -1, 128, 10 + 1<<32, 10 - 1<<32, 20 + 1<<8, 30 - 1<<16}, odd...) {
		wants(t, "Under of no variable", s.Under(a, v, true), a)
		wants(t, "Under of no variable, false", s.Under(a, v, false), a)
	}
}

func TestP15_1UnderMakesLoFirst(t *testing.T) {
	s := store(t, 100)
	x, y, z, v := s.Var(0), s.Var(1), s.Var(2), s.Var(3)
	n := s.Not(v)
	w := s.Var(4)
	// Under 3 true: of y false w, of y true z and w; under x false z or w: Lo's new nodes go ahead of Hi's.
	lo := s.Ite(v, s.Or(z, w), w)
	hi := s.Ite(n, z, s.And(z, w))
	a := s.Ite(x, s.Ite(y, hi, lo), s.Ite(y, lo, hi))
	before := rows(t, s)
	or, and := s.Or(z, w), s.And(z, w)
	wants(t, "Len: both were made on the way", s.Len(), len(before))
	wants(t, "Under", s.Under(a, 3, true), len(before)+4)
	wantsRows(t, s, append(before, api.Branchy{Var: 1, Lo: and, Hi: or}, api.Branchy{Var: 1, Lo: or, Hi: and},
		api.Branchy{Var: 0, Lo: len(before) + 2, Hi: len(before) + 3})...)
	wants(t, "Under again", s.Under(a, 3, true), len(before)+4)
}

func TestP15_1NoDiagramIsFalse(t *testing.T) {
	for _, none := range append([]int{5, 6, 100}, odd...) {
		s := store(t, 100)
		x, y := s.Var(0), s.Var(1)
		wants(t, "Not", s.Not(y), 4)
		wants(t, "Not of none", s.Not(none), 1)
		wants(t, "And", s.And(none, x), 0)
		wants(t, "And of the second", s.And(x, none), 0)
		wants(t, "Or", s.Or(none, x), x)
		wants(t, "Or of the second", s.Or(y, none), y)
		wants(t, "Xor", s.Xor(none, y), y)
		wants(t, "Xor of the second", s.Xor(x, none), x)
		wants(t, "Ite", s.Ite(none, x, y), y)
		wants(t, "Ite of the second", s.Ite(x, none, x), 0)
		wants(t, "Ite of the third", s.Ite(x, 1, none), x)
		wants(t, "Under", s.Under(none, 0, true), 0)
		wants(t, "Len", s.Len(), 3)
	}
}

// A number that is no diagram as a call begins may be one behind a part of it, as Xor is Ite of what Not made.
func TestP15_1XorOfWhatNotMakes(t *testing.T) {
	s := store(t, 100)
	x := s.Var(0)
	wants(t, "Xor", s.Xor(3, x), 1)
	wants(t, "Len", s.Len(), 2)
}
