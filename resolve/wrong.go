package resolve

import "quillon/api"

// byteBits is what a header's width is a multiple of: packets are bytes.
const byteBits = 8

// wrong is what is wrong with an item of a program that may be.
func wrong(p api.Program, it api.Item) api.Errno {
	a, b := it.A, it.B
	switch it.Kind {
	case api.ItHeader:
		return wrongHeader(p, a)
	case api.ItField:
		return alone(Field(p, a, p.Headers[a].Fields[b].Name), b)
	case api.ItMeta:
		return alone(Meta(p, p.Metas[a].Name), a)
	case api.ItState:
		n, _ := State(p, p.States[a].Name)
		return alone(n, a)
	case api.ItTake:
		return known(Header(p, p.States[a].Takes[b]))
	case api.ItNext:
		return wrongNext(p, p.States[a])
	case api.ItCase:
		return wrongTarget(p, p.States[a].Cases[b].To)
	case api.ItAction:
		return alone(Action(p, p.Actions[a].Name), a)
	case api.ItParam:
		return alone(Param(p, a, p.Actions[a].Params[b].Name), b)
	case api.ItStmt:
		return wrongStmt(p, a, it.S)
	case api.ItTable:
		return alone(Table(p, p.Tables[a].Name), a)
	case api.ItKey:
		return Names(p, none, p.Tables[a].Keys[b].E)
	case api.ItListed:
		return wrongListed(Action(p, p.Tables[a].Actions[b]), p.Tables[a].Actions, b)
	case api.ItDefault:
		return wrongDefault(p, p.Tables[a])
	case api.ItEmit:
		return wrongListed(Header(p, p.Emit[a]), p.Emit, a)
	}
	return api.OK
}

// alone is handed the first one of the n-th one's name.
func alone(first, n int) api.Errno {
	if first != n {
		return api.ErrTwice
	}
	return api.OK
}

// known is handed what a name means.
func known(n int) api.Errno {
	if n == none {
		return api.ErrNone
	}
	return api.OK
}

func wrongHeader(p api.Program, n int) api.Errno {
	h := p.Headers[n]
	if e := alone(Header(p, h.Name), n); e != api.OK {
		return e
	}
	if w := Bits(h); w%byteBits != 0 || w > api.MaxBits {
		return api.ErrWidth
	}
	return api.OK
}

func wrongTarget(p api.Program, name string) api.Errno {
	if _, is := State(p, name); !is {
		return api.ErrNone
	}
	return api.OK
}

func wrongNext(p api.Program, s api.State) api.Errno {
	// A state with keys has no target.
	if len(s.Keys) == 0 {
		return wrongTarget(p, s.To)
	}
	for _, k := range s.Keys {
		if e := Names(p, none, k); e != api.OK {
			return e
		}
	}
	return api.OK
}

// wrongStmt looks at a statement but for those in it, which are items of their own.
func wrongStmt(p api.Program, action int, s api.Stmt) api.Errno {
	switch s.Kind {
	case api.StSet:
		if e := known(target(p, s)); e != api.OK {
			return e
		}
	case api.StApply:
		if action != none {
			return api.ErrKind
		}
		return known(Table(p, s.Name))
	case api.StValid, api.StInvalid:
		return known(Header(p, s.Head))
	}
	return Names(p, action, s.E)
}

// target is the field or metadata that is set.
func target(p api.Program, s api.Stmt) int {
	if s.Head == "" {
		return Meta(p, s.Name)
	}
	return Field(p, Header(p, s.Head), s.Name)
}

// wrongListed is handed what the n-th name of a list means.
func wrongListed(means int, l []string, n int) api.Errno {
	if e := known(means); e != api.OK {
		return e
	}
	return alone(firstName(l, l[n]), n)
}

func wrongDefault(p api.Program, t api.Table) api.Errno {
	if firstName(t.Actions, t.Default.Name) == none {
		return api.ErrNone
	}
	// Items ahead of the default hold that each listed action is there.
	params := p.Actions[Action(p, t.Default.Name)].Params
	switch {
	case len(t.Default.Args) < len(params):
		return api.ErrShort
	case len(t.Default.Args) > len(params):
		return api.ErrOver
	}
	return api.OK
}
