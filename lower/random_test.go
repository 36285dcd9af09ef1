package lower_test

import (
	"math/rand"
	"strconv"
	"testing"

	"quillon/api"
	"quillon/lower"
	"quillon/num"
	"quillon/parse"
	"quillon/print"
	"quillon/sample"
)

// A maker makes programs of the names of Typed, at random, always the same ones.
type maker struct {
	*rand.Rand
	p api.Program
}

// of makes expressions of what there is in an action, or (-1) in none.
func (m maker) of(action int) sample.Maker { return sample.Maker{Intn: m.Intn, Action: action} }

func pick[T any](m maker, l ...T) T { return l[m.Intn(len(l))] }

func (m maker) width() int { return pick(m, 1, 2, 3, 8, 9, 10, 16, 127, 128) }

func (m maker) key() api.Expr { return m.of(-1).Own(m.width(), m.Intn(3)) }

func (m maker) stmt(action, room int) api.Stmt {
	x := m.of(action)
	switch m.Intn(9) {
	case 0:
		h := pick(m, m.p.Headers...)
		f := pick(m, h.Fields...)
		return api.Stmt{Kind: api.StSet, Head: h.Name, Name: f.Name, E: x.Bits(f.W, m.Intn(4))}
	case 1:
		f := pick(m, m.p.Metas...)
		return api.Stmt{Kind: api.StSet, Name: f.Name, E: x.Bits(f.W, m.Intn(4))}
	case 2:
		return api.Stmt{Kind: api.StForward, E: pick(m, x.Bits(9, m.Intn(3)), x.Own(m.width(), m.Intn(3)))}
	case 3:
		return api.Stmt{Kind: pick(m, api.StValid, api.StInvalid), Head: pick(m, "h", "i")}
	case 4:
		if action < 0 {
			return api.Stmt{Kind: api.StApply, Name: pick(m, "t", "a")}
		}
		return api.Stmt{Kind: api.StDrop}
	}
	s := api.Stmt{Kind: api.StIf, E: x.Truth(m.Intn(6))}
	if room > 0 {
		s.Then, s.Else = m.block(action, room-1), m.block(action, room-1)
	}
	return s
}

func (m maker) block(action, room int) []api.Stmt {
	var l []api.Stmt
	for range m.Intn(4) {
		l = append(l, m.stmt(action, room))
	}
	return l
}

func (m maker) set(w int) api.Set {
	number := m.of(-1).Number
	switch m.Intn(3) {
	case 0:
		return api.Set{Kind: api.SetOne, V: number(w)}
	case 1:
		return api.Set{Kind: api.SetMask, V: number(w), M: number(w)}
	}
	return api.Set{Kind: api.SetAny}
}

// state is the n-th one of so many: it goes to greater ones alone.
func (m maker) state(n, many int) api.State {
	s := api.State{Name: "s" + strconv.Itoa(n)}
	target := func() string {
		if n+1 == many || m.Intn(4) == 0 {
			return pick(m, "accept", "reject")
		}
		return "s" + strconv.Itoa(n+1+m.Intn(many-n-1))
	}
	for range m.Intn(3) {
		s.Takes = append(s.Takes, pick(m, "h", "i"))
	}
	if m.Intn(3) == 0 {
		s.To = target()
		return s
	}
	var widths []int
	for range 1 + m.Intn(3) {
		w := m.width()
		widths = append(widths, w)
		s.Keys = append(s.Keys, m.of(-1).Own(w, m.Intn(3)))
	}
	for range 1 + m.Intn(4) {
		c := api.Case{Default: m.Intn(4) == 0, To: target()}
		for _, w := range widths {
			if !c.Default {
				c.Sets = append(c.Sets, m.set(w))
			}
		}
		s.Cases = append(s.Cases, c)
	}
	return s
}

func (m maker) table(name string) api.Table {
	x := api.Table{Name: name, Actions: pick(m, []string{"a"}, []string{"c", "a"}, []string{"b", "a", "c"})}
	prefix := m.Intn(4)
	for k := range 1 + m.Intn(4) {
		kind := pick(m, api.KeyExact, api.KeyTernary)
		if k == prefix {
			kind = api.KeyPrefix
		}
		x.Keys = append(x.Keys, api.Key{E: m.key(), Kind: kind})
	}
	number := m.of(-1).Number
	x.Default = api.Call{Name: "a", Args: []api.Lit{number(9), number(8)}}
	return x
}

// newProgram has headers, metadata and actions' parameters of Typed.
func (m maker) newProgram() api.Program {
	p := m.p
	p.States, p.Actions, p.Tables = nil, append([]api.Action(nil), p.Actions...), []api.Table{m.table("t"), m.table("a")}
	many := 1 + m.Intn(5)
	for n := range many {
		p.States = append(p.States, m.state(n, many))
	}
	// What goes forward only may stand in any order.
	m.Shuffle(many, func(i, j int) { p.States[i], p.States[j] = p.States[j], p.States[i] })
	for i := range p.Actions {
		p.Actions[i].Body = m.block(i, 2)
	}
	p.Control = m.block(-1, 4)
	p.Emit = pick(m, nil, []string{"i"}, []string{"h", "i"}, []string{"i", "h"})
	return p
}

// Programs at random: what they are lowered to is what the oracle writes, may be, and is the same as that of their print.
func TestP10_1AnyPrograms(t *testing.T) {
	m := maker{rand.New(rand.NewSource(12)), typed(t)}
	insts, jumps := 0, 0
	for range 1500 {
		p := m.newProgram()
		l := lowered(t, p)
		if got, want := toldProg(l), reckonedText(p); got != want {
			t.Fatalf("lowered to\n%s\nwant\n%s\nof\n%s", got, want, print.Program(p))
		}
		if !reckonedMay(l) {
			t.Fatalf("may not be, as reckoned:\n%s", toldProg(l))
		}
		again, _, f := parse.Program(print.Program(p))
		if f != (api.Fault{}) {
			t.Fatalf("%v in\n%s", f, print.Program(p))
		}
		if q := lowered(t, again); !lower.Same(l, q) || toldProg(l) != toldProg(q) {
			t.Errorf("its print is lowered to\n%s\nof\n%s", toldProg(q), print.Program(p))
		}
		for i, x := range l.Control {
			insts++
			if x.To != 0 {
				jumps++
			}
			if x.To != 0 && x.To <= i {
				t.Errorf("backwards in %s", toldInsts(l.Control))
			}
		}
	}
	if insts < 10000 || jumps < 5000 {
		t.Errorf("only %d instructions, %d jumps", insts, jumps)
	}
}

// Predicates at random: each has a code, of 1 bit, as the oracle writes it.
func TestP10_2AnyPreds(t *testing.T) {
	m := maker{rand.New(rand.NewSource(13)), typed(t)}
	l, w := lowered(t, m.p), &writer{p: m.p, action: -1}
	nodes := 0
	for range 10000 {
		e := m.of(-1).Truth(m.Intn(7))
		c, err := lower.Pred(m.p, e)
		if err != api.OK || told(c) != w.code(e, 0) {
			t.Fatalf("Pred of %s is %s, %d, want %s", print.Expr(e), told(c), err, w.code(e, 0))
		}
		wantWidth(t, l, -1, c, 1)
		again, f := parse.Expr(print.Expr(e))
		d, err := lower.Pred(m.p, again)
		if f != (api.Fault{}) || err != api.OK || !lower.SameCode(c, d) {
			t.Fatalf("of its print Pred is %s, %d, want %s", told(d), err, told(c))
		}
		nodes += len(c)
	}
	if nodes < 50000 {
		t.Errorf("only %d nodes", nodes)
	}
}

// Two programs at random are the same just if their texts are.
func TestP10_2SameOfAnyPrograms(t *testing.T) {
	m := maker{rand.New(rand.NewSource(14)), sample.Least()}
	m.p.Headers = []api.Header{{Name: "h", Fields: []api.Field{{Name: "f", W: 8}}}}
	var l []api.Prog
	for range 200 {
		p := m.p
		p.States = []api.State{{Name: "s", To: pick(m, "accept", "reject"), Takes: pick(m, nil, []string{"h"})}}
		p.Control = []api.Stmt{{Kind: api.StSet, Head: "h", Name: "f", E: api.Expr{Op: api.ExLit, Lit: api.Lit{N: num.Of(uint64(m.Intn(2)))}}}, pick(m, sample.Drop(), api.Stmt{Kind: api.StValid, Head: "h"})}
		l = append(l, lowered(t, p))
	}
	same := 0
	for _, a := range l {
		for _, b := range l {
			if toldProg(a) == toldProg(b) {
				same++
			}
			wantSame(t, a, b, toldProg(a) == toldProg(b), toldProg(a))
		}
	}
	if same < 500 {
		t.Errorf("only %d are the same", same)
	}
}
