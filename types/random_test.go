package types_test

import (
	"math/rand"
	"testing"

	"quillon/api"
	"quillon/num"
	"quillon/parse"
	"quillon/print"
	"quillon/types"
)

// A maker makes expressions at random, always the same ones.
type maker struct{ *rand.Rand }

func pick[T any](m maker, l ...T) T { return l[m.Intn(len(l))] }

// leaf is of any type, or is not there.
func (m maker) leaf() api.Expr { return pick(m, operands()[:27]...) }

// number is one of which the width may, or may not be told.
func (m maker) number(w int) api.Lit {
	n := num.Cut(pick(m, num.Of(0), num.Of(1), num.Mask(128), num.Shl(num.Of(1), w-1, 128)), w)
	return api.Lit{W: pick(m, 0, w), N: n}
}

// bits goes to a width.
func (m maker) bits(w, depth int) api.Expr {
	if depth == 0 || m.Intn(6) == 0 {
		return api.Expr{Op: api.ExLit, Lit: m.number(w)}
	}
	own := func(w int) api.Expr { return m.own(w, depth-1) }
	switch m.Intn(5) {
	case 0:
		return of(pick(m, api.ExNot, api.ExNeg), m.bits(w, depth-1))
	case 1:
		return of(pick(m, api.ExAdd, api.ExSub, api.ExAnd, api.ExXor, api.ExOr), own(w), m.bits(w, depth-1))
	case 2:
		return of(pick(m, api.ExAdd, api.ExSub, api.ExAnd, api.ExXor, api.ExOr), m.bits(w, depth-1), own(w))
	}
	return own(w)
}

// own is of a width of its own.
func (m maker) own(w, depth int) api.Expr {
	if depth <= 0 {
		names := map[int][]api.Expr{
			1: {meta("o")}, 2: {meta("f")}, 3: {field("h", "g")}, 4: {meta("m")}, 5: {field("h", "x")}, 8: {field("h", "f")},
			9: {meta("h"), port()}, 16: {field("i", "f")}, 127: {meta("w")}, 128: {field("i", "w")},
		}
		if l := names[w]; len(l) > 0 {
			return pick(m, l...)
		}
		return api.Expr{Op: api.ExLit, Lit: api.Lit{W: w, N: m.number(w).N}}
	}
	switch m.Intn(4) {
	case 0:
		lo := m.Intn(129 - w)
		return slice(m.own(w+lo+m.Intn(129-w-lo), depth-1), w+lo-1, lo)
	case 1:
		if w > 1 {
			v := 1 + m.Intn(w-1)
			return of(api.ExCat, m.own(v, depth-1), m.own(w-v, depth-1))
		}
	case 2:
		return of(pick(m, api.ExShl, api.ExShr), m.own(w, depth-1), lit(0, uint64(m.Intn(128))))
	}
	return m.own(w, depth-2)
}

func (m maker) truth(depth int) api.Expr {
	w := pick(m, 1, 8, 9, 128)
	switch {
	case depth == 0 || m.Intn(5) == 0:
		return valid(pick(m, "h", "i"))
	case m.Intn(2) == 0:
		return of(api.ExEq+uint8(m.Intn(6)), m.own(w, depth-1), m.bits(w, depth-1))
	case m.Intn(3) == 0:
		return of(api.ExBang, m.truth(depth-1))
	}
	return of(pick(m, api.ExBoth, api.ExAny), m.truth(depth-1), m.truth(depth-1))
}

// any is one that is all right, or of which some part is another one.
func (m maker) any(w, depth int) api.Expr {
	e := m.bits(w, depth)
	if m.Intn(3) == 0 {
		e = m.truth(depth)
	}
	if m.Intn(3) > 0 {
		return e
	}
	at := &e
	for len(at.Args) > 0 && m.Intn(4) > 0 {
		i := m.Intn(len(at.Args))
		if at.Op == api.ExShl || at.Op == api.ExShr {
			i = 0
		}
		at = &at.Args[i]
	}
	*at = m.leaf()
	return e
}

func TestP8_1OfAnyOnes(t *testing.T) {
	p, m := wholeTree(t), maker{rand.New(rand.NewSource(8))}
	met := map[any]int{}
	for range 20000 {
		action, w := m.Intn(4)-1, 1+m.Intn(128)
		e := m.any(w, m.Intn(6))
		s, err := oracleOf(p, action).sort(e)
		wantOf(t, p, action, e, orNothing(s, err), err)
		goes := err
		if err == api.OK {
			met[s.told()]++
			goes = s.to(w)
		}
		met[err]++
		wantGoes(t, p, action, e, w, goes)
		// What a text means its print does, too.
		again, f := parse.Expr(print.Expr(e))
		if f != (api.Fault{}) {
			t.Fatalf("%v in %s", f, print.Expr(e))
		}
		wantOf(t, p, action, again, orNothing(s, err), err)
	}
	for _, x := range []any{api.OK, api.ErrNone, api.ErrKind, api.ErrWidth, api.ErrOver, api.Type{Truth: true}, api.Type{Free: true}} {
		if met[x] < 200 {
			t.Errorf("%v was met %d times", x, met[x])
		}
	}
	if len(met) < 100 {
		t.Errorf("only %d types were met", len(met))
	}
}

// parts are where a program's expressions stand, and its numbers that are in none of these.
func parts(p *api.Program) (exprs []*api.Expr, numbers []*api.Lit) {
	var block func(l []api.Stmt)
	block = func(l []api.Stmt) {
		for i := range l {
			if l[i].E.Op != 0 {
				exprs = append(exprs, &l[i].E)
			}
			block(l[i].Then)
			block(l[i].Else)
		}
	}
	for _, s := range p.States {
		for i := range s.Keys {
			exprs = append(exprs, &s.Keys[i])
		}
		for _, c := range s.Cases {
			for i := range c.Sets {
				numbers = append(numbers, &c.Sets[i].V, &c.Sets[i].M)
			}
		}
	}
	for _, a := range p.Actions {
		block(a.Body)
	}
	for _, x := range p.Tables {
		for i := range x.Keys {
			exprs = append(exprs, &x.Keys[i].E)
		}
		for i := range x.Default.Args {
			numbers = append(numbers, &x.Default.Args[i])
		}
	}
	block(p.Control)
	return exprs, numbers
}

// Programs some of whose expressions, numbers and kinds of keys are others.
func TestP8_2CheckAnyPrograms(t *testing.T) {
	m := maker{rand.New(rand.NewSource(9))}
	met, places := map[api.Errno]int{}, map[int]int{}
	for range 6000 {
		p := wholeTree(t)
		exprs, numbers := parts(&p)
		for range 1 + m.Intn(3) {
			w := pick(m, 1, 3, 4, 5, 8, 9, 13, 16, 127, 128)
			switch m.Intn(5) {
			case 0, 1:
				*pick(m, exprs...) = m.any(w, m.Intn(4))
			case 2, 3:
				*pick(m, numbers...) = m.number(w)
			case 4:
				keys := pick(m, p.Tables...).Keys
				keys[m.Intn(len(keys))].Kind = pick(m, api.KeyExact, api.KeyPrefix)
			}
		}
		want, wantErr := check(p)
		if n, e := types.Check(p); n != want || e != wantErr {
			t.Errorf("Check is %d, %d, want %d, %d, of\n%s", n, e, want, wantErr, print.Program(p))
		}
		met[wantErr]++
		places[want]++
	}
	for _, e := range []api.Errno{api.OK, api.ErrArg, api.ErrNone, api.ErrKind, api.ErrWidth, api.ErrOver, api.ErrTwice} {
		if met[e] < 20 {
			t.Errorf("%d was met %d times", e, met[e])
		}
	}
	if len(places) < 30 {
		t.Errorf("only %d items were told", len(places))
	}
}
