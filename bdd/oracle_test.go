package bdd_test

import "quillon/api"

// A plain store is the chapter's words once more: no map, nothing that was reckoned is kept.
type plain struct {
	cap  int
	full bool
	rows []api.Branchy // from the number 2 on
}

func (p *plain) there(a int) int {
	if a < 0 || a > len(p.rows)+1 {
		return 0
	}
	return a
}

// node tells false, where it made the store full, or it was so.
func (p *plain) node(v, lo, hi int) (int, bool) {
	if p.full {
		return 0, false
	}
	if lo == hi {
		return lo, true
	}
	for i, n := range p.rows {
		if n.Var == v && n.Lo == lo && n.Hi == hi {
			return i + 2, true
		}
	}
	if len(p.rows) == p.cap {
		p.full = true
		return 0, false
	}
	p.rows = append(p.rows, api.Branchy{Var: v, Lo: lo, Hi: hi})
	return len(p.rows) + 1, true
}

// top is a diagram's variable; of 0 and 1 one behind all.
func (p *plain) top(a int) int {
	if a < 2 {
		return api.MaxVars
	}
	return p.rows[a-2].Var
}

func (p *plain) half(a, v int, on bool) int {
	if p.top(a) != v {
		return a
	}
	if on {
		return p.rows[a-2].Hi
	}
	return p.rows[a-2].Lo
}

func (p *plain) variable(v int) int {
	if v < 0 || v > 63 {
		return 0
	}
	n, _ := p.node(v, 0, 1)
	return n
}

func (p *plain) ite(c, a, b int) int {
	if p.full {
		return 0
	}
	if c == 1 || a == b {
		return a
	}
	if c == 0 {
		return b
	}
	if a == 1 && b == 0 {
		return c
	}
	v := min(p.top(c), p.top(a), p.top(b))
	lo := p.ite(p.half(c, v, false), p.half(a, v, false), p.half(b, v, false))
	hi := p.ite(p.half(c, v, true), p.half(a, v, true), p.half(b, v, true))
	n, _ := p.node(v, lo, hi)
	return n
}

func (p *plain) xor(a, b int) int {
	other := p.ite(b, 0, 1)
	return p.ite(p.there(a), other, b)
}

func (p *plain) under(a, v int, on bool) int {
	if p.full {
		return 0
	}
	if a < 2 || p.top(a) > v {
		return a
	}
	if p.top(a) == v {
		return p.half(a, v, on)
	}
	n := p.rows[a-2]
	lo := p.under(n.Lo, v, on)
	hi := p.under(n.Hi, v, on)
	told, _ := p.node(n.Var, lo, hi)
	return told
}

func (p *plain) holds(a int, bits []bool) bool {
	if a < 2 {
		return a == 1
	}
	n := p.rows[a-2]
	if n.Var < len(bits) && bits[n.Var] {
		return p.holds(n.Hi, bits)
	}
	return p.holds(n.Lo, bits)
}

// least goes through all settings of so many bits, rising.
func (p *plain) least(a, vars int) ([]bool, bool) {
	for setting := range uint64(1) << vars {
		if bits := bitsOf(setting, vars); p.holds(a, bits) {
			return bits, true
		}
	}
	return nil, false
}

func (p *plain) size(a int) int {
	seen := make([]bool, len(p.rows)+2)
	todo := []int{a}
	many := 0
	for len(todo) > 0 {
		b := todo[len(todo)-1]
		todo = todo[:len(todo)-1]
		if b < 2 || seen[b] {
			continue
		}
		seen[b] = true
		many++
		todo = append(todo, p.rows[b-2].Lo, p.rows[b-2].Hi)
	}
	return many
}
