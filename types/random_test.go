package types_test

import (
	"math/rand"
	"testing"

	"quillon/api"
	"quillon/parse"
	"quillon/print"
	"quillon/sample"
	"quillon/types"
)

// A maker makes expressions at random, always the same ones: sample's, and some with something wrong.
type maker struct{ sample.Maker }

func newMaker(seed int64) maker {
	return maker{sample.Maker{Intn: rand.New(rand.NewSource(seed)).Intn, Action: -1}}
}

func pick[T any](m maker, l ...T) T { return sample.Pick(m.Maker, l...) }

// leaf is of any type, or is not there.
func (m maker) leaf() api.Expr { return pick(m, operands()[:27]...) }

// any is one that is all right, or of which some part is another one.
func (m maker) any(w, depth int) api.Expr {
	e := m.Bits(w, depth)
	if m.Intn(3) == 0 {
		e = m.Truth(depth)
	}
	if m.Intn(3) > 0 {
		return e
	}
	at := &e
	for len(at.Args) > 0 && m.Intn(4) > 0 {
		i := m.Intn(len(at.Args))
		if at.Op == api.ExShl || at.Op == api.ExShr {
			i = 0
		}
		at = &at.Args[i]
	}
	*at = m.leaf()
	return e
}

func TestP8_1OfAnyOnes(t *testing.T) {
	p, m := wholeTree(t), newMaker(8)
	met := map[any]int{}
	for range 20000 {
		action, w := m.Intn(4)-1, 1+m.Intn(128)
		e := m.any(w, m.Intn(6))
		s, err := oracleOf(p, action).sort(e)
		wantOf(t, p, action, e, orNothing(s, err), err)
		goes := err
		if err == api.OK {
			met[s.told()]++
			goes = s.to(w)
		}
		met[err]++
		wantGoes(t, p, action, e, w, goes)
		// What a text means its print does, too.
		again, f := parse.Expr(print.Expr(e))
		if f != (api.Fault{}) {
			t.Fatalf("%v in %s", f, print.Expr(e))
		}
		wantOf(t, p, action, again, orNothing(s, err), err)
	}
	for _, x := range []any{api.OK, api.ErrNone, api.ErrKind, api.ErrWidth, api.ErrOver, api.Type{Truth: true}, api.Type{Free: true}} {
		if met[x] < 200 {
			t.Errorf("%v was met %d times", x, met[x])
		}
	}
	if len(met) < 100 {
		t.Errorf("only %d types were met", len(met))
	}
}

// parts are where a program's expressions stand, and its numbers that are in none of these.
func parts(p *api.Program) (exprs []*api.Expr, numbers []*api.Lit) {
	var block func(l []api.Stmt)
	block = func(l []api.Stmt) {
		for i := range l {
			if l[i].E.Op != 0 {
				exprs = append(exprs, &l[i].E)
			}
			block(l[i].Then)
			block(l[i].Else)
		}
	}
	for _, s := range p.States {
		for i := range s.Keys {
			exprs = append(exprs, &s.Keys[i])
		}
		for _, c := range s.Cases {
			for i := range c.Sets {
				numbers = append(numbers, &c.Sets[i].V, &c.Sets[i].M)
			}
		}
	}
	for _, a := range p.Actions {
		block(a.Body)
	}
	for _, x := range p.Tables {
		for i := range x.Keys {
			exprs = append(exprs, &x.Keys[i].E)
		}
		for i := range x.Default.Args {
			numbers = append(numbers, &x.Default.Args[i])
		}
	}
	block(p.Control)
	return exprs, numbers
}

// Programs some of whose expressions, numbers and kinds of keys are others.
func TestP8_2CheckAnyPrograms(t *testing.T) {
	m := newMaker(9)
	met, places := map[api.Errno]int{}, map[int]int{}
	for range 6000 {
		p := wholeTree(t)
		exprs, numbers := parts(&p)
		for range 1 + m.Intn(3) {
			w := pick(m, 1, 3, 4, 5, 8, 9, 13, 16, 127, 128)
			switch m.Intn(5) {
			case 0, 1:
				*pick(m, exprs...) = m.any(w, m.Intn(4))
			case 2, 3:
				*pick(m, numbers...) = m.Number(w)
			case 4:
				keys := pick(m, p.Tables...).Keys
				keys[m.Intn(len(keys))].Kind = pick(m, api.KeyExact, api.KeyPrefix)
			}
		}
		want, wantErr := check(p)
		if n, e := types.Check(p); n != want || e != wantErr {
			t.Errorf("Check is %d, %d, want %d, %d, of\n%s", n, e, want, wantErr, print.Program(p))
		}
		met[wantErr]++
		places[want]++
	}
	for _, e := range []api.Errno{api.OK, api.ErrArg, api.ErrNone, api.ErrKind, api.ErrWidth, api.ErrOver, api.ErrTwice} {
		if met[e] < 20 {
			t.Errorf("%d was met %d times", e, met[e])
		}
	}
	if len(places) < 30 {
		t.Errorf("only %d items were told", len(places))
	}
}
