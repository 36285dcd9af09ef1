package entries

import (
	"quillon/api"
	"quillon/lower"
	"quillon/match"
)

// Rules say what entries may be of a program, that may be itself.
type rules struct {
	api.Prog
	widths [][]int // of each table's keys, reckoned once: a key's code may be long
}

func newRules(p api.Prog) rules {
	r := rules{Prog: p}
	for _, t := range p.Tabs {
		var l []int
		for _, k := range t.Keys {
			w, _ := lower.Width(p, noAction, k)
			l = append(l, w)
		}
		r.widths = append(r.widths, l)
	}
	return r
}

// noAction is the action of what is in none.
const noAction = -1

func (r rules) may(l []api.Entry) bool {
	return len(l) <= api.MaxEntries && each(l, r.mayBe)
}

func (r rules) mayBe(e api.Entry) bool {
	if e.Tab < 0 || e.Tab >= len(r.Tabs) || len(e.Pats) != len(r.Tabs[e.Tab].Keys) {
		return false
	}
	t := r.Tabs[e.Tab]
	for n, x := range e.Pats {
		if !mayAsk(t.Kinds[n], x, r.widths[e.Tab][n]) {
			return false
		}
	}
	return e.Len == r.prefixLength(e) && 0 <= e.Prio && e.Prio <= api.MaxPrio && lower.MayRun(r.Prog, t.Acts, e.Run)
}

// mayAsk tells whether a key of a kind and of a width may be asked by a pattern.
func mayAsk(kind uint8, x api.Pat, w int) bool {
	length, isPrefix := match.Length(x, w)
	switch kind {
	case api.KeyExact:
		return length == w
	case api.KeyPrefix:
		return isPrefix
	}
	return match.May(x, w)
}

// prefixLength is how long an entry's prefix is; without a key that asks for one it is 0. All of its patterns are there.
func (r rules) prefixLength(e api.Entry) int {
	for n, kind := range r.Tabs[e.Tab].Kinds {
		if kind == api.KeyPrefix {
			length, _ := match.Length(e.Pats[n], r.widths[e.Tab][n])
			return length
		}
	}
	return 0
}
