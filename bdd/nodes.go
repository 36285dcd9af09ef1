package bdd

import "quillon/api"

// The diagrams that are no nodes.
const (
	no  = 0
	yes = 1
)

// mostReckoned is how much of what was reckoned is kept: without a bound that could grow far beyond the nodes.
const mostReckoned = 1 << 21

// noRoom is what making a node gives up with in a full store.
type noRoom struct{}

type node struct{ v, lo, hi int32 }

// three is what Ite is of.
type three struct{ c, a, b int32 }

// nodes are a store's diagrams by their numbers.
type nodes struct {
	cap      int
	full     bool
	rows     []node
	places   map[node]int32
	reckoned map[three]int32
}

func newNodes(cap int) *nodes {
	// false and true stand in the rows too, behind all variables: they are their own halves under each.
	rows := []node{no: {v: api.MaxVars, lo: no, hi: no}, yes: {v: api.MaxVars, lo: yes, hi: yes}}
	return &nodes{cap: cap, rows: rows, places: map[node]int32{}, reckoned: map[three]int32{}}
}

func (d *nodes) len() int { return len(d.rows) - 2 }

// known is a diagram's number: 0 of what is no diagram.
func (d *nodes) known(a int) int {
	if a < 0 || a >= len(d.rows) {
		return no
	}
	return a
}

func (d *nodes) node(v, lo, hi int) int {
	if lo == hi {
		return lo
	}
	n := node{v: int32(v), lo: int32(lo), hi: int32(hi)}
	if place, is := d.places[n]; is {
		return int(place)
	}
	if d.len() >= d.cap {
		d.full = true
		panic(noRoom{})
	}
	place := len(d.rows)
	d.rows = append(d.rows, n)
	d.places[n] = int32(place)
	return place
}

func (d *nodes) variable(v int) int {
	if v < 0 || v >= api.MaxVars {
		return no
	}
	return d.node(v, no, yes)
}

func (d *nodes) ite(c, a, b int) int {
	switch {
	case c == yes || a == b:
		return a
	case c == no:
		return b
	case a == yes && b == no:
		return c
	}
	of := three{c: int32(c), a: int32(a), b: int32(b)}
	if told, is := d.reckoned[of]; is {
		return int(told)
	}
	v := int(min(d.rows[c].v, d.rows[a].v, d.rows[b].v))
	lo := d.ite(d.half(c, v, false), d.half(a, v, false), d.half(b, v, false))
	hi := d.ite(d.half(c, v, true), d.half(a, v, true), d.half(b, v, true))
	told := d.node(v, lo, hi)
	d.keep(of, told)
	return told
}

// half is a diagram, that has no lesser variable than v, under v.
func (d *nodes) half(a, v int, on bool) int {
	n := d.rows[a]
	switch {
	case int(n.v) != v:
		return a
	case on:
		return int(n.hi)
	}
	return int(n.lo)
}

func (d *nodes) keep(of three, told int) {
	if len(d.reckoned) >= mostReckoned {
		clear(d.reckoned)
	}
	d.reckoned[of] = int32(told)
}

func (d *nodes) under(a, v int, on bool) int {
	// A node that is come to by many ways is gone down once.
	known := map[int]int{}
	var down func(a int) int
	down = func(a int) int {
		n := d.rows[a]
		if a <= yes || int(n.v) >= v {
			return d.half(a, v, on)
		}
		if told, is := known[a]; is {
			return told
		}
		lo := down(int(n.lo))
		told := d.node(int(n.v), lo, down(int(n.hi)))
		known[a] = told
		return told
	}
	return down(a)
}

func (d *nodes) holds(a int, bits []bool) bool {
	for a > yes {
		v := int(d.rows[a].v)
		a = d.half(a, v, v < len(bits) && bits[v])
	}
	return a == yes
}

func (d *nodes) least(a, vars int) ([]bool, bool) {
	bits := make([]bool, vars)
	never := map[int]struct{}{} // nodes that are true under no bits of these
	var can func(a int) bool
	can = func(a int) bool {
		if a <= yes {
			return a == yes
		}
		if _, is := never[a]; is {
			return false
		}
		n := d.rows[a]
		if can(int(n.lo)) {
			return true
		}
		if int(n.v) < vars {
			bits[n.v] = true
			if can(int(n.hi)) {
				return true
			}
			bits[n.v] = false
		}
		never[a] = struct{}{}
		return false
	}
	if !can(a) {
		return nil, false
	}
	return bits, true
}

func (d *nodes) size(a int) int {
	seen := map[int]struct{}{}
	var down func(a int)
	down = func(a int) {
		if _, is := seen[a]; is || a <= yes {
			return
		}
		seen[a] = struct{}{}
		down(int(d.rows[a].lo))
		down(int(d.rows[a].hi))
	}
	down(a)
	return len(seen)
}
