package bdd_test

import (
	"testing"

	"quillon/api"
	"quillon/bdd"
)

// makers are calls that make diagrams, of diagrams that need no new node.
var makers = []struct {
	name string
	call func(s *bdd.Store) int
}{
	{"Var", func(s *bdd.Store) int { return s.Var(0) }},
	{"Ite", func(s *bdd.Store) int { return s.Ite(1, 2, 3) }},
	{"Ite of two that are the same", func(s *bdd.Store) int { return s.Ite(2, 3, 3) }},
	{"Ite of 1 and 0", func(s *bdd.Store) int { return s.Ite(2, 1, 0) }},
	{"Not", func(s *bdd.Store) int { return s.Not(0) }},
	{"And", func(s *bdd.Store) int { return s.And(2, 1) }},
	{"Or", func(s *bdd.Store) int { return s.Or(2, 3) }},
	{"Xor", func(s *bdd.Store) int { return s.Xor(2, 0) }},
	{"Under", func(s *bdd.Store) int { return s.Under(2, 0, true) }},
	{"Under of 1", func(s *bdd.Store) int { return s.Under(1, 0, true) }},
	{"Under of another variable", func(s *bdd.Store) int { return s.Under(2, 5, true) }},
}

func TestP15_1FullForGood(t *testing.T) {
	for _, m := range makers {
		s := store(t, 3)
		s.Var(0)
		s.Var(1)
		s.Or(2, 3)
		if m.call(s) == 0 {
			t.Errorf("%s is 0 of a store that has room", m.name)
		}
		wants(t, "Full of all there is", s.Full(), false)
		wants(t, "And of what has no room", s.And(2, 3), 0)
		for range 3 {
			wants(t, m.name+" of a full one", m.call(s), 0)
			wants(t, "Full", s.Full(), true)
		}
		wantsRows(t, s, api.Branchy{Var: 0, Hi: 1}, api.Branchy{Var: 1, Hi: 1}, api.Branchy{Var: 0, Lo: 3, Hi: 1})
	}
}

// What is there, or is no node, needs no room.
func TestP15_1FullByNewNodesAlone(t *testing.T) {
	s := store(t, 4)
	x, y := s.Var(0), s.Var(1)
	both, not := s.And(x, y), s.Not(x)
	wants(t, "Len", s.Len(), 4)
	for range 2 {
		wants(t, "Var", s.Var(1), y)
		wants(t, "And", s.And(y, x), both)
		wants(t, "Not", s.Not(not), x)
		wants(t, "Or", s.Or(both, x), x)
		wants(t, "And with Not", s.And(not, both), 0)
		wants(t, "Under", s.Under(both, 0, true), y)
		wants(t, "Under of the last variable", s.Under(both, 1, true), x)
		wants(t, "Xor", s.Xor(x, x), 0)
		wants(t, "Var of none", s.Var(64), 0)
		wants(t, "Full", s.Full(), false)
	}
	wants(t, "Var of a new one", s.Var(2), 0)
	wants(t, "Full", s.Full(), true)
	wants(t, "Len", s.Len(), 4)
}

// Each call that makes a diagram fills a store that has no room for it.
func TestP15_1FullByEachCall(t *testing.T) {
	for _, c := range []struct {
		name string
		call func(s *bdd.Store, x, y, z int) int
	}{
		{"Var", func(s *bdd.Store, x, y, z int) int { return s.Var(3) }},
		{"Ite", func(s *bdd.Store, x, y, z int) int { return s.Ite(x, y, z) }},
		{"Not", func(s *bdd.Store, x, y, z int) int { return s.Not(x) }},
		{"And", func(s *bdd.Store, x, y, z int) int { return s.And(x, z) }},
		{"Or", func(s *bdd.Store, x, y, z int) int { return s.Or(x, y) }},
		{"Xor", func(s *bdd.Store, x, y, z int) int { return s.Xor(y, z) }},
		{"Under", func(s *bdd.Store, x, y, z int) int { return s.Under(6, 1, true) }},
	} {
		s := store(t, 5)
		x, y, z := s.Var(0), s.Var(1), s.Var(2)
		// Under the variable 1 this is Or of 0 and 2, which is not there.
		wants(t, "Ite", s.Ite(x, 1, s.And(y, z)), 6)
		wants(t, "Len", s.Len(), 5)
		wants(t, "Full", s.Full(), false)
		wants(t, c.name, c.call(s, x, y, z), 0)
		wants(t, c.name+" fills", s.Full(), true)
		wants(t, "Len", s.Len(), 5)
	}
}

// What was made up to there stays, and is told still.
func TestP15_1FullOnTheWay(t *testing.T) {
	s := store(t, 6)
	x, y, z := s.Var(0), s.Var(1), s.Var(2)
	wants(t, "Or", s.Or(x, s.Or(y, z)), 6)
	wants(t, "Not of four nodes", s.Not(6), 0)
	wants(t, "Full", s.Full(), true)
	wantsRows(t, s, api.Branchy{Var: 0, Hi: 1}, api.Branchy{Var: 1, Hi: 1}, api.Branchy{Var: 2, Hi: 1},
		api.Branchy{Var: 1, Lo: 4, Hi: 1}, api.Branchy{Var: 0, Lo: 5, Hi: 1}, api.Branchy{Var: 2, Lo: 1})
	wants(t, "Size", s.Size(6), 3)
	wants(t, "Holds", s.Holds(6, []bool{false, false, true}), true)
	wants(t, "Holds of 1", s.Holds(1, nil), true)
	wants(t, "Holds of what was made on the way", s.Holds(7, []bool{false, false, false}), true)
	wantsLeast(t, s, 6, 3, []bool{false, false, true})
}

func TestP15_1FullAtTheGreatestCap(t *testing.T) {
	s := store(t, 1<<20)
	// One diagram a number: its lowest 21 bits thrice, each a variable, or Not of it.
	made, full := 0, false
	for n := 0; !full; n++ {
		a := 1
		for v := 63; v >= 0 && !full; v-- {
			x := s.Var(v)
			if n>>(v%21)&1 == 0 {
				x = s.Not(x)
			}
			a = s.And(x, a)
			full = s.Full()
		}
		made++
	}
	wants(t, "Len", s.Len(), 1<<20)
	wants(t, "Var", s.Var(0), 0)
	if made < 1<<14 {
		t.Errorf("full behind %d", made)
	}
}

// One that is not there, or was not made.
func TestP15_1NotMade(t *testing.T) {
	for _, s := range []*bdd.Store{nil, {}, new(bdd.Store)} {
		for _, m := range makers {
			wants(t, m.name, m.call(s), 0)
		}
		wants(t, "Not of 1", s.Not(1), 0)
		wants(t, "Or of 1", s.Or(1, 1), 0)
		wants(t, "Holds", s.Holds(1, []bool{true}), false)
		bits, is := s.Least(1, 3)
		wants(t, "Least", len(bits), 0)
		wants(t, "Least is", is, false)
		n, is := s.At(2)
		wants(t, "At", n, api.Branchy{})
		wants(t, "At is", is, false)
		wants(t, "Size", s.Size(1), 0)
		wants(t, "Size of 2", s.Size(2), 0)
		wants(t, "Len", s.Len(), 0)
		wants(t, "Full", s.Full(), true)
	}
}
