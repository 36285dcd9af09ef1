package lower

import (
	"quillon/api"
	"quillon/num"
	"quillon/resolve"
)

func (m maker) program() api.Prog {
	return api.Prog{
		Heads:   all(m.p.Headers, func(h api.Header) []int { return all(h.Fields, fieldWidth) }),
		Metas:   all(m.p.Metas, fieldWidth),
		Steps:   all(m.p.States, m.step),
		Acts:    m.acts(),
		Tabs:    all(m.p.Tables, m.tab),
		Control: m.insts(m.p.Control),
		Emit:    all(m.p.Emit, m.head),
		Names:   names(m.p),
	}
}

func (m maker) step(s api.State) api.Step {
	// With keys To is nothing, as no state is called: 0.
	x := api.Step{Takes: all(s.Takes, m.head), Keys: all(s.Keys, m.key), To: m.target(s.To)}
	x.Branches = all(s.Cases, func(c api.Case) api.Branch {
		return api.Branch{Pats: patterns(c, x.Keys), To: m.target(c.To)}
	})
	return x
}

// key: what is free is no key.
func (m maker) key(e api.Expr) api.Code { return m.code(e, 0) }

func (m maker) target(name string) int {
	n, _ := resolve.State(m.p, name)
	return n
}

func patterns(c api.Case, keys []api.Code) []api.Pat {
	l := make([]api.Pat, len(keys))
	for i, s := range c.Sets {
		l[i] = pattern(s, width(keys[i]))
	}
	return l
}

func pattern(s api.Set, w int) api.Pat {
	switch s.Kind {
	case api.SetOne:
		return api.Pat{V: s.V.N, M: num.Mask(w)}
	case api.SetMask:
		return api.Pat{V: num.And(s.V.N, s.M.N), M: s.M.N}
	}
	return api.Pat{}
}

func (m maker) acts() []api.Act {
	var l []api.Act
	for n, a := range m.p.Actions {
		m.action = n
		l = append(l, api.Act{Params: all(a.Params, fieldWidth), Body: m.insts(a.Body)})
	}
	return l
}

func (m maker) tab(t api.Table) api.Tab {
	return api.Tab{
		Keys:  all(t.Keys, func(k api.Key) api.Code { return m.key(k.E) }),
		Kinds: all(t.Keys, func(k api.Key) uint8 { return k.Kind }),
		Acts:  all(t.Actions, m.act),
		Default: api.Run{
			Act:  m.act(t.Default.Name),
			Args: all(t.Default.Args, func(l api.Lit) api.Num { return l.N }),
		},
	}
}

func (m maker) act(name string) int { return resolve.Action(m.p, name) }

func (m maker) table(name string) int { return resolve.Table(m.p, name) }

func names(p api.Program) api.Names {
	return api.Names{
		Headers: all(p.Headers, func(h api.Header) string { return h.Name }),
		Fields:  all(p.Headers, func(h api.Header) []string { return all(h.Fields, fieldName) }),
		Metas:   all(p.Metas, fieldName),
		Actions: all(p.Actions, func(a api.Action) string { return a.Name }),
		Tables:  all(p.Tables, func(t api.Table) string { return t.Name }),
	}
}

func fieldName(f api.Field) string { return f.Name }

func fieldWidth(f api.Field) int { return f.W }

// all are what is made of each one.
func all[T, U any](l []T, one func(T) U) []U {
	var made []U
	for _, x := range l {
		made = append(made, one(x))
	}
	return made
}
