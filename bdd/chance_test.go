package bdd_test

import (
	"math/rand"
	"slices"
	"testing"

	"quillon/api"
	"quillon/bdd"
	"quillon/sample"
)

// spread are the variables of stores made by chance.
var spread = []int{0, 1, 2, 31, 62, 63}

// A pair is a store, and a second reckoning of it.
type pair struct {
	s *bdd.Store
	p *plain
}

// some is a diagram, most often one of the last, or a number that is none.
func some(r *rand.Rand, s *bdd.Store) int {
	switch r.Intn(12) {
	case 0:
		return r.Intn(2)
	case 1:
		return odd[r.Intn(len(odd))]
	case 2, 3, 4, 5, 6:
		return 2 + max(0, s.Len()-1-r.Intn(4))
	}
	return 2 + r.Intn(s.Len()+1)
}

// chance is a store and its second reckoning, of so many things by chance, most often behind some variables.
func chance(t *testing.T, r *rand.Rand, limit, steps int) pair {
	t.Helper()
	x := pair{store(t, limit), &plain{cap: limit}}
	for _, i := range r.Perm(len(spread))[:r.Intn(len(spread)+1)] {
		wants(t, "Var", x.s.Var(spread[i]), x.p.variable(spread[i]))
	}
	for range steps {
		if what, got, want := x.step(r); got != want {
			t.Fatalf("%s is %d, not %d", what, got, want)
		}
	}
	return x
}

// step does one thing by chance with both, and answers what both told.
func (x pair) step(r *rand.Rand) (string, int, int) {
	a, b, c := some(r, x.s), some(r, x.s), some(r, x.s)
	v := spread[r.Intn(len(spread))]
	on := r.Intn(2) == 1
	p := x.p
	switch r.Intn(9) {
	case 0, 1:
		if r.Intn(8) == 0 {
			v = odd[r.Intn(len(odd))]
		}
		return "Var", x.s.Var(v), p.variable(v)
	case 2:
		return "Not", x.s.Not(a), p.ite(p.there(a), 0, 1)
	case 3:
		return "And", x.s.And(a, b), p.ite(p.there(a), p.there(b), 0)
	case 4:
		return "Or", x.s.Or(a, b), p.ite(p.there(a), 1, p.there(b))
	case 5:
		got := x.s.Xor(a, b)
		return "Xor", got, p.xor(a, p.there(b))
	case 6:
		if r.Intn(4) == 0 {
			v = r.Intn(200) - 60
		}
		return "Under", x.s.Under(a, v, on), p.under(p.there(a), v, on)
	}
	return "Ite", x.s.Ite(a, b, c), p.ite(p.there(a), p.there(b), p.there(c))
}

// wantsSame asks both for all that they have.
func (x pair) wantsSame(t *testing.T) {
	t.Helper()
	if got := rows(t, x.s); !slices.Equal(got, x.p.rows) {
		t.Fatalf("its nodes are %v, not %v", got, x.p.rows)
	}
	wants(t, "Full", x.s.Full(), x.p.full)
}

func TestP15_1Chance(t *testing.T) {
	r := rand.New(rand.NewSource(151))
	full := 0
	for range 20000 {
		x := chance(t, r, 2+r.Intn(100), 40)
		x.wantsSame(t)
		if x.p.full {
			full++
		}
	}
	if full < 4000 || full > 16000 {
		t.Errorf("%d of 20000 are full", full)
	}
}

func TestP15_2Chance(t *testing.T) {
	r := rand.New(rand.NewSource(152))
	all := sample.Settings(spread...)
	for range 150 {
		x := chance(t, r, 20+r.Intn(100), 60)
		for a := range x.s.Len() + 2 {
			for _, bits := range all {
				wants(t, "Holds", x.s.Holds(a, bits), x.p.holds(a, bits))
				many := r.Intn(64)
				wants(t, "Holds of some bits", x.s.Holds(a, bits[:many]), x.p.holds(a, bits[:many]))
			}
			wants(t, "Size", x.s.Size(a), x.p.size(a))
			for vars := range 5 {
				want, is := x.p.least(a, vars)
				if is {
					wantsLeast(t, x.s, a, vars, want)
				} else {
					wantsNone(t, x.s, a, vars)
				}
			}
		}
		x.wantsSame(t)
	}
}

// Least of all variables, held against what is less bit by bit: no setting of the spread ones that is so is less.
func TestP15_2LeastByChance(t *testing.T) {
	r := rand.New(rand.NewSource(153))
	all := sample.Settings(spread...)
	slices.SortFunc(all, lessBits)
	for range 300 {
		x := chance(t, r, 200, 40)
		for a := range x.s.Len() + 2 {
			at := slices.IndexFunc(all, func(bits []bool) bool { return x.p.holds(a, bits) })
			if at < 0 {
				wantsNone(t, x.s, a, 64)
			} else {
				wantsLeast(t, x.s, a, 64, all[at])
			}
		}
	}
}

func lessBits(a, b []bool) int {
	for i := range a {
		switch {
		case a[i] && !b[i]:
			return 1
		case !a[i] && b[i]:
			return -1
		}
	}
	return 0
}

// Two diagrams are the same just if they are so under all bits; Lo and Hi have greater variables, and lesser numbers.
func TestP15_1SameJustIfSo(t *testing.T) {
	r := rand.New(rand.NewSource(154))
	all := sample.Settings(spread...)
	for range 200 {
		x := chance(t, r, 300, 80)
		seen := map[uint64]int{}
		for a := range x.s.Len() + 2 {
			truth := uint64(0)
			for i, bits := range all {
				if x.s.Holds(a, bits) {
					truth |= 1 << i
				}
			}
			if b, is := seen[truth]; is {
				t.Errorf("%d and %d are one", b, a)
			}
			seen[truth] = a
		}
		for a, n := range rows(t, x.s) {
			for _, b := range []int{n.Lo, n.Hi} {
				under, is := x.s.At(b)
				if b >= a+2 || is && under.Var <= n.Var || n.Lo == n.Hi {
					t.Errorf("%d is %v, over %v", a+2, n, under)
				}
			}
		}
	}
}

// What is told at a cap is told the same at each greater one.
func TestP15_1GreaterCaps(t *testing.T) {
	for seed := range int64(300) {
		var told [][]int
		for _, limit := range []int{2, 3, 5, 9, 17, 40, 1000, 1 << 20} {
			r := rand.New(rand.NewSource(seed))
			s := store(t, limit)
			var l []int
			for range 40 {
				// Of what was told alone, not of all that there is: a full store would choose by others.
				n := tellOf(r, s, l)
				if s.Full() {
					wants(t, "Len of a full one", s.Len(), limit)
					break
				}
				l = append(l, n)
			}
			told = append(told, l)
		}
		for i, l := range told[1:] {
			if len(l) < len(told[i]) || !slices.Equal(l[:len(told[i])], told[i]) {
				t.Fatalf("%v, and at a greater cap %v", told[i], l)
			}
		}
	}
}

func tellOf(r *rand.Rand, s *bdd.Store, l []int) int {
	one := func() int {
		if len(l) == 0 {
			return 1
		}
		return l[r.Intn(len(l))]
	}
	switch r.Intn(5) {
	case 0:
		return s.Var(r.Intn(8))
	case 1:
		return s.Xor(one(), one())
	case 2:
		return s.Under(one(), r.Intn(8), r.Intn(2) == 1)
	}
	return s.Ite(one(), one(), one())
}

// Numbers of two stores have nothing to do with one another.
func TestP15_1StoresApart(t *testing.T) {
	one, two := store(t, 2), store(t, 2)
	wants(t, "Var", one.Var(5), 2)
	wants(t, "Var of another one", two.Var(6), 2)
	one.Var(1)
	one.Var(2)
	wants(t, "Full", one.Full(), true)
	wants(t, "Full of the other one", two.Full(), false)
	wantsRows(t, two, api.Branchy{Var: 6, Hi: 1})
}

// product is the bits of two numbers' product, the lowest one first.
func product(s *bdd.Store, a, b []int) []int {
	sum := make([]int, len(a)+len(b))
	for i := range a {
		carry := 0
		for j := range b {
			p := s.And(a[i], b[j])
			either := s.Xor(sum[i+j], p)
			next := s.Or(s.And(sum[i+j], p), s.And(carry, either))
			sum[i+j], carry = s.Xor(either, carry), next
		}
		sum[i+len(b)] = carry
	}
	return sum
}

func TestP15_1Product(t *testing.T) {
	const w = 10
	s := store(t, 1<<20)
	var a, b []int
	for i := range w {
		a = append(a, s.Var(i))
		b = append(b, s.Var(w+i))
	}
	wants(t, "both ways round", slices.Equal(product(s, a[:6], b[:6]), product(s, b[:6], a[:6])), true)
	one := product(s, a, b)
	// More is reckoned here than any store keeps of it.
	for i, x := range one {
		wants(t, "Xor of Xor", s.Xor(one[i/2], s.Xor(x, one[i/2])), x)
		not := s.Not(x)
		for i, c := range [][4]int{
			{x, not, 0, 0}, {not, x, 0, 0}, {x, x, 0, x}, {not, not, 0, not}, {x, 1, not, 1}, {not, 1, x, 1}, {x, 0, not, not}, {not, 0, x, x},
			{x, x, not, 1}, {not, not, x, 1}, {x, not, x, 0}, {not, x, not, 0}, {x, 1, x, x}, {not, 1, not, not}, {x, not, 1, not}, {not, x, 1, x},
		} {
			if got := s.Ite(c[0], c[1], c[2]); got != c[3] {
				t.Fatalf("the %d-th Ite of both is %d, not %d", i, got, c[3])
			}
		}
	}
	wants(t, "Full", s.Full(), false)
	r := rand.New(rand.NewSource(155))
	for range 3000 {
		bits := someBits(r, 2*w)
		want := numberOf(bits[:w]) * numberOf(bits[w:])
		got := 0
		for i, x := range one {
			if s.Holds(x, bits) {
				got |= 1 << i
			}
		}
		wants(t, "the product", got, want)
	}
}

// numberOf is the number of bits, the lowest one first.
func numberOf(bits []bool) int {
	n := 0
	for i, on := range bits {
		if on {
			n |= 1 << i
		}
	}
	return n
}

func TestP1Soup(t *testing.T) {
	r := rand.New(rand.NewSource(1))
	numbers := append([]int{0, 1, 2, 3, 4, 5, 63, 64, 65, 1 << 16, 1 << 20, 1<<20 + 1}, odd...)
	one := func() int { return numbers[r.Intn(len(numbers))] }
	for range 2000 {
		s, e := bdd.New(one())
		if (e == api.OK) != (s != nil) {
			t.Fatal(e)
		}
		for range 30 {
			switch r.Intn(7) {
			case 0:
				s.Var(one() % 70)
			case 1:
				s.Ite(one(), one(), one())
			case 2:
				s.Xor(s.And(one(), one()), s.Or(one(), s.Not(one())))
			case 3:
				s.Under(one(), one(), r.Intn(2) == 1)
			case 4:
				s.Holds(one(), someBits(r, r.Intn(70)))
			case 5:
				s.Least(one(), one())
			case 6:
				s.At(one())
				s.Size(one())
				s.Len()
				s.Full()
			}
		}
	}
}
