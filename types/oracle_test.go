package types_test

import (
	"quillon/api"
	"quillon/resolve"
)

// A sort is what an expression is, told by the widths that it can have: a truth none, bits one, what is free all from one on.
type sort struct{ least, most int }

// endless is above all widths.
const endless = 1 << 20

func truthful() sort       { return sort{1, 0} }
func exactly(w int) sort   { return sort{w, w} }
func from(w int) sort      { return sort{w, endless} }
func (s sort) truth() bool { return s.least > s.most }
func (s sort) free() bool  { return s.most == endless }

func (s sort) told() api.Type {
	switch {
	case s.truth():
		return api.Type{Truth: true}
	case s.free():
		return api.Type{Free: true}
	}
	return api.Type{W: s.least}
}

// A rule is an error, if something is so.
type rule struct {
	is bool
	e  api.Errno
}

// firstOf is the first rule's error that is so.
func firstOf(rules ...rule) api.Errno {
	for _, r := range rules {
		if r.is {
			return r.e
		}
	}
	return api.OK
}

// ofBits are the rules of one that has to have a width of its own.
func (s sort) ofBits() api.Errno {
	return firstOf(rule{s.truth(), api.ErrKind}, rule{s.free(), api.ErrWidth})
}

// to are the rules of one that goes to a width.
func (s sort) to(w int) api.Errno {
	return firstOf(rule{s.truth(), api.ErrKind}, rule{s.free() && s.least > w, api.ErrOver}, rule{!s.free() && s.least != w, api.ErrWidth})
}

// An oracle is all names that there are where an expression stands, with their widths: by a kind, and a name.
type oracle map[uint8]map[string]int

func oracleOf(p api.Program, action int) oracle {
	o := oracle{api.ExField: {}, api.ExMeta: {}, api.ExParam: {}, api.ExValid: {}}
	add := func(kind uint8, name string, w int) {
		if _, is := o[kind][name]; !is {
			o[kind][name] = w
		}
	}
	for _, h := range p.Headers {
		add(api.ExValid, h.Name, 0)
		for _, f := range h.Fields {
			add(api.ExField, h.Name+"."+f.Name, f.W)
		}
	}
	for _, m := range p.Metas {
		add(api.ExMeta, m.Name, m.W)
	}
	if action >= 0 && action < len(p.Actions) {
		for _, f := range p.Actions[action].Params {
			add(api.ExParam, f.Name, f.W)
		}
	}
	return o
}

// sort is an expression's, or what is wrong with it.
func (o oracle) sort(e api.Expr) (sort, api.Errno) {
	l := []sort{}
	for i, a := range e.Args {
		if i == 1 && (e.Op == api.ExShl || e.Op == api.ExShr) {
			break
		}
		s, err := o.sort(a)
		if err != api.OK {
			return sort{}, err
		}
		l = append(l, s)
	}
	s, err := o.sortOf(e, l)
	if err != api.OK {
		s = sort{}
	}
	return s, err
}

func (o oracle) sortOf(e api.Expr, l []sort) (sort, api.Errno) {
	switch e.Op {
	case api.ExLit:
		if e.Lit.W == 0 {
			return from(needs(e.Lit.N)), api.OK
		}
		return exactly(e.Lit.W), api.OK
	case api.ExPort:
		return exactly(9), api.OK
	case api.ExField:
		w, is := o[e.Op][e.Head+"."+e.Name]
		return exactly(w), firstOf(rule{!is, api.ErrNone})
	case api.ExMeta, api.ExParam:
		w, is := o[e.Op][e.Name]
		return exactly(w), firstOf(rule{!is, api.ErrNone})
	case api.ExValid:
		_, is := o[e.Op][e.Head]
		return truthful(), firstOf(rule{!is, api.ErrNone})
	case api.ExNot, api.ExNeg:
		return l[0], firstOf(rule{l[0].truth(), api.ErrKind})
	case api.ExBang:
		return l[0], firstOf(rule{!l[0].truth(), api.ErrKind})
	case api.ExSlice:
		err := l[0].ofBits()
		return exactly(1 + e.Hi - e.Lo), firstOf(rule{err != 0, err}, rule{e.Hi >= l[0].most, api.ErrOver})
	case api.ExShl, api.ExShr:
		return l[0], l[0].ofBits()
	case api.ExCat:
		one, two := l[0].ofBits(), l[1].ofBits()
		sum := l[0].least + l[1].least
		return exactly(sum), firstOf(rule{one != 0, one}, rule{two != 0, two}, rule{sum > 128, api.ErrOver})
	case api.ExBoth, api.ExAny:
		return truthful(), firstOf(rule{!l[0].truth() || !l[1].truth(), api.ErrKind})
	}
	both := sort{max(l[0].least, l[1].least), min(l[0].most, l[1].most)}
	err := firstOf(
		rule{l[0].truth() || l[1].truth(), api.ErrKind},
		rule{both.free(), api.ErrWidth},
		rule{both.truth() && (l[0].free() || l[1].free()), api.ErrOver},
		rule{both.truth(), api.ErrWidth},
	)
	if e.Op >= api.ExEq {
		both = truthful()
	}
	return both, err
}

// number is what is wrong with a number that goes to a width.
func number(l api.Lit, w int) api.Errno {
	if l.W == 0 {
		return from(needs(l.N)).to(w)
	}
	return exactly(l.W).to(w)
}

// numbers are those that belong to a set.
func numbers(s api.Set) []api.Lit {
	switch s.Kind {
	case api.SetOne:
		return []api.Lit{s.V}
	case api.SetMask:
		return []api.Lit{s.V, s.M}
	}
	return nil
}

// key is what is wrong with one of a transition, or a table.
func (o oracle) key(e api.Expr) api.Errno {
	s, err := o.sort(e)
	if err != api.OK {
		return err
	}
	return s.ofBits()
}

// item is what is wrong with one of a program all of whose names mean something.
func item(p api.Program, it api.Item) api.Errno {
	outside := oracleOf(p, -1)
	switch it.Kind {
	case api.ItNext:
		for _, k := range p.States[it.A].Keys {
			if e := outside.key(k); e != api.OK {
				return e
			}
		}
	case api.ItCase:
		state := p.States[it.A]
		for i, set := range state.Cases[it.B].Sets {
			s, _ := outside.sort(state.Keys[i])
			for _, l := range numbers(set) {
				if e := number(l, s.least); e != api.OK {
					return e
				}
			}
		}
	case api.ItStmt:
		return statement(p, oracleOf(p, it.A), it.S)
	case api.ItKey:
		k := p.Tables[it.A].Keys[it.B]
		prefixes := 0
		for _, other := range p.Tables[it.A].Keys[:it.B] {
			if other.Kind == api.KeyPrefix {
				prefixes++
			}
		}
		e := outside.key(k.E)
		return firstOf(rule{e != 0, e}, rule{k.Kind == api.KeyPrefix && prefixes > 0, api.ErrTwice})
	case api.ItDefault:
		call := p.Tables[it.A].Default
		for i, l := range call.Args {
			if e := number(l, p.Actions[resolve.Action(p, call.Name)].Params[i].W); e != api.OK {
				return e
			}
		}
	}
	return api.OK
}

func statement(p api.Program, o oracle, x api.Stmt) api.Errno {
	if x.E.Op == 0 {
		return api.OK // it has no expression
	}
	s, e := o.sort(x.E)
	if e != api.OK {
		return e
	}
	switch x.Kind {
	case api.StSet:
		if x.Head == "" {
			return s.to(o[api.ExMeta][x.Name])
		}
		return s.to(o[api.ExField][x.Head+"."+x.Name])
	case api.StIf:
		return firstOf(rule{!s.truth(), api.ErrKind})
	case api.StForward:
		return firstOf(rule{s.truth(), api.ErrKind}, rule{s.free() && s.least > 9, api.ErrOver})
	}
	return api.OK
}

// check is Check reckoned in another way.
func check(p api.Program) (int, api.Errno) {
	if n, e := resolve.Check(p); e != api.OK {
		return n, e
	}
	l := resolve.Items(p)
	for n, it := range l {
		if e := item(p, it); e != api.OK {
			return n, e
		}
	}
	return len(l), api.OK
}
