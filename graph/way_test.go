package graph_test

import (
	"math"
	"slices"
	"testing"

	"quillon/api"
	"quillon/graph"
	"quillon/sample"
)

func TestP9_1Next(t *testing.T) {
	p := program("s: t", "t: accept", "u: v u s", "v: reject", "w: accept v reject s nobody", "x:", "y: v t v accept t s t", "z: nobody")
	wantNext(t, p, 0, 1)
	wantNext(t, p, 1)
	wantNext(t, p, 2, 3, 2, 0)
	wantNext(t, p, 3)
	wantNext(t, p, 4, 3, 0)
	wantNext(t, p, 5)
	wantNext(t, p, 6, 3, 1, 0)
	wantNext(t, p, 7)
	for _, none := range []int{-1, -2, len(p.States), len(p.States) + 1, math.MaxInt, math.MinInt} {
		wantNext(t, p, none)
		wantNext(t, api.Program{}, none)
	}
	wantNext(t, api.Program{}, 0)
	wantNext(t, sample.Full(), 0, 1)
	wantNext(t, sample.Full(), 3, 1)
}

// A default goes on as each other case does.
func TestP9_1NextOfDefault(t *testing.T) {
	p := program("s: t u", "t: accept", "u: accept", "v: accept")
	p.States[0].Cases = append([]api.Case{{Default: true, To: "v"}}, p.States[0].Cases...)
	wantNext(t, p, 0, 3, 1, 2)
	wantReached(t, p, true, true, true, true)
	p.States[0].Cases = []api.Case{{Default: true, To: "s"}}
	wantCycle(t, p, 0)
}

// What states are called hangs on layer 7: the first one of a name, and never one that is called accept or reject.
func TestP9_1NextOfNames(t *testing.T) {
	p := program("accept: reject", "s: accept", "s: s", "reject: s accept", "u: S t s")
	wantNext(t, p, 0)
	wantNext(t, p, 1)
	wantNext(t, p, 2, 1)
	wantNext(t, p, 3, 1)
	wantNext(t, p, 4, 1)
	wantReached(t, p, true, false, false, false, false)
	// The second one of a name isn't that which the name means, and is on no cycle.
	wantCycle(t, p, -1)
	wantOrder(t, p, []int{0, 2, 3, 4, 1}, api.OK)
}

// Of a state that has a To and cases, both count, the To first; one that has none of them goes nowhere, even if there is a state without a name.
func TestP9_1NextOfBoth(t *testing.T) {
	p := program(": s", "s: u t s", "t:", "u: accept")
	p.States[1].To = "t"
	p.States[2].Keys, p.States[2].Cases = nil, nil
	wantNext(t, p, 0, 1)
	wantNext(t, p, 1, 2, 3, 1)
	wantNext(t, p, 2)
	wantNext(t, api.Program{States: []api.State{{}}}, 0)
	wantCycle(t, api.Program{States: []api.State{{}}}, -1)
}

func TestP9_1NextIsNew(t *testing.T) {
	p := program("s: t u", "t: accept", "u: accept")
	l := graph.Next(p, 0)
	l[0], l[1] = 7, 7
	wantNext(t, p, 0, 1, 2)
	graph.Reached(p)[2] = false
	wantReached(t, p, true, true, true)
	order, _ := graph.Order(p)
	slices.Reverse(order)
	wantOrder(t, p, []int{0, 1, 2}, api.OK)
}

func TestP9_1Reached(t *testing.T) {
	wantReached(t, program("a: b", "b: accept", "c: a"), true, true, false)
	wantReached(t, program("s: accept"), true)
	wantReached(t, program("s: nobody"), true)
	wantReached(t, program("s: reject", "t: accept", "u: t"), true, false, false)
	wantReached(t, program("s: v u", "t: accept", "u: accept", "v: x", "w: t", "x: u"), true, false, true, true, false, true)
	// On a cycle; by a cycle; the first one again.
	wantReached(t, program("s: s", "t: s"), true, false)
	wantReached(t, program("s: v", "t: u", "u: t", "v: w", "w: v x", "x: s"), true, false, false, true, true, true)
	wantReached(t, program("s: u", "t: t", "u: t"), true, true, true)
	wantReached(t, api.Program{})
	wantReached(t, sample.Full(), true, true, false, false)
}

func TestP9_1Cycle(t *testing.T) {
	wantCycle(t, program("a: b", "b: a"), 0)
	wantCycle(t, program("s: s"), 0)
	wantCycle(t, program("s: accept s"), 0)
	wantCycle(t, program("s: accept"), -1)
	wantCycle(t, api.Program{}, -1)
	wantCycle(t, sample.Full(), -1)
	// What goes to a cycle, and what a cycle goes to, isn't on it.
	wantCycle(t, program("s: t", "t: u", "u: t v", "v: accept"), 1)
	wantCycle(t, program("v: accept", "s: u", "t: v", "u: w t", "w: t u"), 3)
	// Also where the parser never comes to it.
	wantCycle(t, program("s: accept", "t: accept", "u: u"), 2)
	wantCycle(t, program("s: accept", "w: s", "t: v w", "u: t", "v: u"), 2)
	// One that is reached in two ways is on none.
	wantCycle(t, program("s: t u", "t: v", "u: v", "v: w x", "w: x", "x: accept"), -1)
	// The first of those that are on some, not of those on the shortest one.
	wantCycle(t, program("s: accept", "t: u", "u: v", "v: t", "w: w"), 1)
	wantCycle(t, program("s: accept", "w: w", "t: u", "u: v", "v: t"), 1)
	wantCycle(t, program("s: x", "t: u", "u: t", "x: y", "y: x"), 1)
}

func TestP9_1CycleOfEachLength(t *testing.T) {
	for n := 1; n <= api.MaxStates; n++ {
		var rows []string
		for i := range n {
			rows = append(rows, name(i)+": "+name((i+1)%n))
		}
		wantCycle(t, program(rows...), 0)
		wantOrder(t, program(rows...), nil, api.ErrCycle)
		rows[n-1] = name(n-1) + ": accept"
		wantCycle(t, program(rows...), -1)
	}
}

// name is the i-th state's, of those that are many.
func name(i int) string {
	return "s" + string(rune('A'+i/676)) + string(rune('A'+i/26%26)) + string(rune('A'+i%26))
}

func TestP9_2Order(t *testing.T) {
	wantOrder(t, program("a: b", "b: accept", "c: a"), []int{2, 0, 1}, api.OK)
	wantOrder(t, program("a: b", "b: a"), nil, api.ErrCycle)
	wantOrder(t, program("s: accept"), []int{0}, api.OK)
	wantOrder(t, api.Program{}, nil, api.OK)
	wantOrder(t, program("s: accept", "t: reject", "u: nobody"), []int{0, 1, 2}, api.OK)
	wantOrder(t, program("s: accept", "t: s", "u: t"), []int{2, 1, 0}, api.OK)
	// The least one that is free now, not the next one behind the last.
	wantOrder(t, program("s: accept", "t: accept", "u: s", "v: accept"), []int{1, 2, 0, 3}, api.OK)
	// One that is free since long goes behind a lesser one that is free just now.
	wantOrder(t, program("s: accept", "t: s", "u: t", "v: accept"), []int{2, 1, 0, 3}, api.OK)
	// Not by how far they are from the first state, nor way by way.
	wantOrder(t, program("s: v t", "t: u", "u: accept", "v: u"), []int{0, 1, 3, 2}, api.OK)
	wantOrder(t, program("s: t u", "t: accept", "u: t v", "v: accept"), []int{0, 2, 1, 3}, api.OK)
	// One state that names another one twice, or two that name it, free it just once.
	wantOrder(t, program("s: u u t", "t: u", "u: accept"), []int{0, 1, 2}, api.OK)
	wantOrder(t, program("u: accept", "s: u", "t: u u"), []int{1, 2, 0}, api.OK)
	// A cycle anywhere, also where the parser never comes.
	wantOrder(t, program("s: accept", "t: accept", "u: u"), nil, api.ErrCycle)
	wantOrder(t, program("s: t", "t: u", "u: t v", "v: accept"), nil, api.ErrCycle)
	wantOrder(t, sample.Full(), []int{0, 2, 3, 1}, api.OK)
}

func TestP9_2Most(t *testing.T) {
	wantMost(t, taking("s: accept"), 0, api.OK)
	wantMost(t, taking("s: accept [a]"), 8, api.OK)
	wantMost(t, taking("s: reject [a b c]"), 48, api.OK)
	wantMost(t, taking("s: accept [b b]"), 32, api.OK)
	wantMost(t, taking("s: accept [nobody b nobody]"), 16, api.OK)
	wantMost(t, api.Program{}, 0, api.OK)
	wantMost(t, sample.Full(), 64+16, api.OK)
	// A way's states are summed, and of ways the greatest is told, be it the first, the last, the longest or the shortest one.
	wantMost(t, taking("s: t [a]", "t: u [b]", "u: accept [c]"), 48, api.OK)
	wantMost(t, taking("s: t u [a]", "t: accept [c]", "u: accept [b]"), 32, api.OK)
	wantMost(t, taking("s: u t [a]", "t: accept [c]", "u: accept [b]"), 32, api.OK)
	wantMost(t, taking("s: t u [a]", "t: u [a]", "u: accept [b]"), 32, api.OK)
	wantMost(t, taking("s: t u [a]", "t: v [c c]", "u: v [b]", "v: accept [a]"), 64, api.OK)
	wantMost(t, taking("s: t u", "t: v [a]", "v: w [a]", "w: accept [a]", "u: accept [b b]"), 32, api.OK)
	// A way may end ahead of where the parser does: this one goes to what there is not.
	wantMost(t, taking("s: nobody t accept [b]", "t: nobody [b]"), 32, api.OK)
	// From the first state on alone.
	wantMost(t, taking("s: t [a]", "t: accept [b]", "u: s [c c c]"), 24, api.OK)
	wantMost(t, taking("s: accept [a]", "t: accept [c]"), 8, api.OK)
	// A cycle anywhere.
	wantMost(t, taking("s: s [a]"), 0, api.ErrCycle)
	wantMost(t, taking("s: t [a]", "t: s [b]"), 0, api.ErrCycle)
	wantMost(t, taking("s: accept [a]", "t: u", "u: t"), 0, api.ErrCycle)
}

// Where widths may be below 0, the greatest sum may be that of a way that goes less far; the first state is on all of them.
func TestP9_2MostBelowNought(t *testing.T) {
	p := taking("s: t [a]", "t: u [b]", "u: accept [c]")
	p.Headers[1].Fields[1].W = -16
	wantMost(t, p, 8-15+24, api.OK)
	p.Headers[1].Fields[1].W = -101
	wantMost(t, p, 8, api.OK)
	p.Headers[0].Fields[0].W = -3
	wantMost(t, p, -3, api.OK)
	p.Headers[2].Fields[0].W = 1000
	wantMost(t, p, -3-100+1016, api.OK)
	p.Headers[1].Fields = nil
	wantMost(t, p, -3+1016, api.OK)
}

// The first header of a name is the one that is taken.
func TestP9_2MostOfNames(t *testing.T) {
	p := taking("s: accept [b a]")
	p.Headers[2].Name = "a"
	wantMost(t, p, 8+16, api.OK)
	p.Headers[0].Name = "b"
	wantMost(t, p, 8+24, api.OK)
}

// All states go to all behind them: 2^14 ways come to the last one.
func TestP9_1_P9_2ManyWays(t *testing.T) {
	p, targets := taking(), []string{"accept"}
	var order []int
	reached := make([]bool, api.MaxStates)
	for i := range api.MaxStates {
		n := api.MaxStates - 1 - i
		s := api.State{Name: name(n), Takes: []string{"c", "c"}, Keys: []api.Expr{sample.Port()}, Cases: cases(targets...)}
		p.States = append([]api.State{s}, p.States...)
		targets = append([]string{s.Name}, targets...)
		order, reached[i] = append(order, i), true
	}
	for range 1000 {
		wantOrder(t, p, order, api.OK)
		wantReached(t, p, reached...)
		wantCycle(t, p, -1)
		wantMost(t, p, api.MaxStates*48, api.OK)
	}
}

// More states than a program may have, each one behind that to which it goes, but the first one.
func TestP9_1_P9_2ManyStates(t *testing.T) {
	const many = 3000
	p := taking(name(0) + ": " + name(many-1) + " [a]")
	reached, order := []bool{true}, []int{0}
	for i := 1; i < many; i++ {
		p.States = append(p.States, api.State{Name: name(i), To: name(i - 1), Takes: []string{"a"}})
		reached, order = append(reached, true), append(order, many-i)
	}
	wantReached(t, p, reached...)
	wantCycle(t, p, 0)
	wantOrder(t, p, nil, api.ErrCycle)
	p.States[1].To = "accept"
	wantReached(t, p, reached...)
	wantCycle(t, p, -1)
	wantOrder(t, p, order, api.OK)
	wantMost(t, p, 8*many, api.OK)
}
